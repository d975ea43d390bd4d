/- The document's Set and Same of layer 12. -/
import Derived.Test.YtohkopjacpendaaGN1
import Derived.Test.YtohkopjacpendaaGT2
import Derived.Test.YtohkopjacpendaaGPut
namespace Go.Proofs.Ytohkopjacpendaa
open Go.RowKit Go.Lib
set_option linter.unusedVariables false
theorem Try.infoNot : (Try.prog.info? 24).map (fun i => (i.zero, i.size, i.bytes)) = some (some (.agg #[.string ⟨#[]⟩, .int .i64 0, .int .i64 0, .string ⟨#[]⟩]), 4, 48) := by kernel_rfl
set_option maxHeartbeats 4000000 in
theorem Same12_ref (a : Option Addr) (n cap : Nat) (s : List Nt) (a' : Option Addr) (n' cap' : Nat) (s' : List Nt) (w : World) (hA : NN w a n s) (hA' : NN w a' n' s') : Calls Try.prog 15 #[.slice a n cap, .slice a' n' cap'] w fun e w' => e = .returned (.bool (decide (s = s'))) ∧ Below w.heap.size w w' := by
  have HV := hide hA
  have HV' := hide hA'
  have HLEN := hide hA.1
  have HLEN' := hide hA'.1
  have hmx := hA.2.1
  unfold maxLen at hmx
  clear hA hA'
  by_cases hnn : n = n'
  · subst hnn
    go_enter Try.func15, Try.ntmps15
    go_wp2
    go_loopw [5] (fun v wr => ∃ k : Nat, k ≤ n ∧ v = .int .i64 k ∧ Hid (s.take k = s'.take k) ∧ Hid (Below w.heap.size w wr)) (fun v _ => n - (intOf v).toNat)
    case atStart => exact ⟨0, by omega, rfl, (show _ = _ by simp), Below.refl _ _⟩
    case round =>
      obtain ⟨k0, hk, rfl, HF, HB⟩ := hrel
      by_cases hlt : k0 < n
      · obtain ⟨b, off, rfl⟩ := HV.out.addr (by omega)
        obtain ⟨b', off', rfl⟩ := HV'.out.addr (by omega)
        obtain ⟨k, ta, rp, wd, hx, c0, c1, c2, c3⟩ := (HV.out.below HB.out).at k0 hlt
        obtain ⟨k', ta', rp', wd', hx', d0, d1, d2, d3⟩ := (HV'.out.below HB.out).at k0 hlt
        have hk0 : (0 : Int) ≤ (k0 : Int) := by omega
        have hk1 : (k0 : Int) < (n : Int) := by omega
        have hq := eqK k k'
        have hp := eqK wd wd'
        have HX := hide hx
        have HX' := hide hx'
        clear hx hx'
        by_cases he : k = k'
        · rw [decide_eq_true he] at hq
          subst he
          by_cases h1 : ta = ta'
          · subst h1
            by_cases h2 : rp = rp'
            · subst h2
              by_cases h3 : wd = wd'
              · rw [decide_eq_true h3] at hp
                have HF2 : Hid (s.take (k0 + 1) = s'.take (k0 + 1)) := by unfold Hid; rw [takeG_snoc HX.out, takeG_snoc HX'.out, HF.out, h3]
                subst h3
                go_upto_region 6 with fail
                refine wp_region_held_drew (S := fun W => Below wr.heap.size wr W) (by kernel_rfl) ((Below.refl _ wr).drew) (fun hS0 => ?_)
                refine takeInH 0 17 ?v1 rfl rfl (by kernel_rfl) (by kernel_rfl) (by kernel_rfl) (fun _ _ _ h => h) (by kernel_rfl) hS0 ?hy1 ?_
                case hy1 => (intro W hW; clear hW; go_simp; try rfl)
                simp only [Act.put, List.setIfInBounds_toArray, List.set_cons_zero, List.set_cons_succ]
                refine takeInH 1 18 ?v2 rfl rfl (by kernel_rfl) (by kernel_rfl) (by kernel_rfl) (fun _ _ _ h => h) (by kernel_rfl) hS0 ?hy2 ?_
                case hy2 => (intro W hW; clear hW; go_simp; try rfl)
                simp only [Act.put, List.setIfInBounds_toArray, List.set_cons_zero, List.set_cons_succ]
                refine takeInH 2 19 ?v3 rfl rfl (by kernel_rfl) (by kernel_rfl) (by kernel_rfl) (fun _ _ _ h => h) (by kernel_rfl) hS0 ?hy3 ?_
                case hy3 => (intro W hW; clear hW; go_simp; try rfl)
                simp only [Act.put, List.setIfInBounds_toArray, List.set_cons_zero, List.set_cons_succ]
                refine takeInH 3 20 ?v4 rfl rfl (by kernel_rfl) (by kernel_rfl) (by kernel_rfl) (fun _ _ _ h => h) (by kernel_rfl) hS0 ?hy4 ?_
                case hy4 => (intro W hW; have e0 := bcell hW c0; have e1 := bcell hW c1; have e2 := bcell hW c2; have e3 := bcell hW c3; have e4 := bcell hW d0; have e5 := bcell hW d1; have e6 := bcell hW d2; have e7 := bcell hW d3; clear hW; go_simp; try rfl)
                simp only [Act.put, List.setIfInBounds_toArray, List.set_cons_zero, List.set_cons_succ]
                refine takeInH 4 21 ?v5 rfl rfl (by kernel_rfl) (by kernel_rfl) (by kernel_rfl) (fun _ _ _ h => h) (by kernel_rfl) hS0 ?hy5 ?_
                case hy5 => (intro W hW; clear hW; go_simp; try rfl)
                simp only [Act.put, List.setIfInBounds_toArray, List.set_cons_zero, List.set_cons_succ]
                refine takeInH 5 22 ?v6 rfl rfl (by kernel_rfl) (by kernel_rfl) (by kernel_rfl) (fun _ _ _ h => h) (by kernel_rfl) hS0 ?hy6 ?_
                case hy6 => (intro W hW; clear hW; go_simp; try rfl)
                simp only [Act.put, List.setIfInBounds_toArray, List.set_cons_zero, List.set_cons_succ]
                refine takeInH 6 23 ?v7 rfl rfl (by kernel_rfl) (by kernel_rfl) (by kernel_rfl) (fun _ _ _ h => h) (by kernel_rfl) hS0 ?hy7 ?_
                case hy7 => (intro W hW; clear hW; go_simp; try rfl)
                simp only [Act.put, List.setIfInBounds_toArray, List.set_cons_zero, List.set_cons_succ]
                refine takeInH 7 24 ?v8 rfl rfl (by kernel_rfl) (by kernel_rfl) (by kernel_rfl) (fun _ _ _ h => h) (by kernel_rfl) hS0 ?hy8 ?_
                case hy8 => (intro W hW; have e0 := bcell hW c0; have e1 := bcell hW c1; have e2 := bcell hW c2; have e3 := bcell hW c3; have e4 := bcell hW d0; have e5 := bcell hW d1; have e6 := bcell hW d2; have e7 := bcell hW d3; clear hW; go_simp; try rfl)
                simp only [Act.put, List.setIfInBounds_toArray, List.set_cons_zero, List.set_cons_succ]
                refine takeInH 8 25 ?v9 rfl rfl (by kernel_rfl) (by kernel_rfl) (by kernel_rfl) (fun _ _ _ h => h) (by kernel_rfl) hS0 ?hy9 ?_
                case hy9 => (intro W hW; clear hW; go_simp; try rfl)
                simp only [Act.put, List.setIfInBounds_toArray, List.set_cons_zero, List.set_cons_succ]
                refine wpAnyH_done (by kernel_rfl) ?_ _
                go_wp2
                go_roundw
                case rel => exact ⟨k0 + 1, by omega, by go_num, HF2, (show Hid _ from bel_next HB.out hS0)⟩
                case measure => simp [intOf]; omega
              · rw [decide_eq_false h3] at hp
                have HNO : Hid (decide (s = s') = false) := by
                  unfold Hid
                  rw [decide_eq_false_iff_not]
                  intro q
                  have h1 := HX.out
                  rw [q, HX'.out] at h1
                  cases h1
                  exact h3 rfl
                go_upto_region 6 with fail
                refine wp_region_held_drew (S := fun W => Below wr.heap.size wr W) (by kernel_rfl) ((Below.refl _ wr).drew) (fun hS0 => ?_)
                refine takeInH 0 17 ?v10 rfl rfl (by kernel_rfl) (by kernel_rfl) (by kernel_rfl) (fun _ _ _ h => h) (by kernel_rfl) hS0 ?hy10 ?_
                case hy10 => (intro W hW; clear hW; go_simp; try rfl)
                simp only [Act.put, List.setIfInBounds_toArray, List.set_cons_zero, List.set_cons_succ]
                refine takeInH 1 18 ?v11 rfl rfl (by kernel_rfl) (by kernel_rfl) (by kernel_rfl) (fun _ _ _ h => h) (by kernel_rfl) hS0 ?hy11 ?_
                case hy11 => (intro W hW; clear hW; go_simp; try rfl)
                simp only [Act.put, List.setIfInBounds_toArray, List.set_cons_zero, List.set_cons_succ]
                refine takeInH 2 19 ?v12 rfl rfl (by kernel_rfl) (by kernel_rfl) (by kernel_rfl) (fun _ _ _ h => h) (by kernel_rfl) hS0 ?hy12 ?_
                case hy12 => (intro W hW; clear hW; go_simp; try rfl)
                simp only [Act.put, List.setIfInBounds_toArray, List.set_cons_zero, List.set_cons_succ]
                refine takeInH 3 20 ?v13 rfl rfl (by kernel_rfl) (by kernel_rfl) (by kernel_rfl) (fun _ _ _ h => h) (by kernel_rfl) hS0 ?hy13 ?_
                case hy13 => (intro W hW; have e0 := bcell hW c0; have e1 := bcell hW c1; have e2 := bcell hW c2; have e3 := bcell hW c3; have e4 := bcell hW d0; have e5 := bcell hW d1; have e6 := bcell hW d2; have e7 := bcell hW d3; clear hW; go_simp; try rfl)
                simp only [Act.put, List.setIfInBounds_toArray, List.set_cons_zero, List.set_cons_succ]
                refine takeInH 4 21 ?v14 rfl rfl (by kernel_rfl) (by kernel_rfl) (by kernel_rfl) (fun _ _ _ h => h) (by kernel_rfl) hS0 ?hy14 ?_
                case hy14 => (intro W hW; clear hW; go_simp; try rfl)
                simp only [Act.put, List.setIfInBounds_toArray, List.set_cons_zero, List.set_cons_succ]
                refine takeInH 5 22 ?v15 rfl rfl (by kernel_rfl) (by kernel_rfl) (by kernel_rfl) (fun _ _ _ h => h) (by kernel_rfl) hS0 ?hy15 ?_
                case hy15 => (intro W hW; clear hW; go_simp; try rfl)
                simp only [Act.put, List.setIfInBounds_toArray, List.set_cons_zero, List.set_cons_succ]
                refine takeInH 6 23 ?v16 rfl rfl (by kernel_rfl) (by kernel_rfl) (by kernel_rfl) (fun _ _ _ h => h) (by kernel_rfl) hS0 ?hy16 ?_
                case hy16 => (intro W hW; clear hW; go_simp; try rfl)
                simp only [Act.put, List.setIfInBounds_toArray, List.set_cons_zero, List.set_cons_succ]
                refine takeInH 7 24 ?v17 rfl rfl (by kernel_rfl) (by kernel_rfl) (by kernel_rfl) (fun _ _ _ h => h) (by kernel_rfl) hS0 ?hy17 ?_
                case hy17 => (intro W hW; have e0 := bcell hW c0; have e1 := bcell hW c1; have e2 := bcell hW c2; have e3 := bcell hW c3; have e4 := bcell hW d0; have e5 := bcell hW d1; have e6 := bcell hW d2; have e7 := bcell hW d3; clear hW; go_simp; try rfl)
                simp only [Act.put, List.setIfInBounds_toArray, List.set_cons_zero, List.set_cons_succ]
                refine takeInH 8 25 ?v18 rfl rfl (by kernel_rfl) (by kernel_rfl) (by kernel_rfl) (fun _ _ _ h => h) (by kernel_rfl) hS0 ?hy18 ?_
                case hy18 => (intro W hW; clear hW; go_simp; try rfl)
                simp only [Act.put, List.setIfInBounds_toArray, List.set_cons_zero, List.set_cons_succ]
                refine wpAnyH_done (by kernel_rfl) ?_ _
                go_wp2
                go_ret
                exact ⟨by rw [HNO.out]; rfl, bel_next HB.out hS0⟩
            · have e2 : (rp == rp') = false := by rw [beq_eq_false_iff_ne]; exact h2
              have HNO : Hid (decide (s = s') = false) := by
                unfold Hid
                rw [decide_eq_false_iff_not]
                intro q
                have h1 := HX.out
                rw [q, HX'.out] at h1
                cases h1
                exact h2 rfl
              go_upto_region 6 with fail
              refine wp_region_held_drew (S := fun W => Below wr.heap.size wr W) (by kernel_rfl) ((Below.refl _ wr).drew) (fun hS0 => ?_)
              refine takeInH 0 17 ?v19 rfl rfl (by kernel_rfl) (by kernel_rfl) (by kernel_rfl) (fun _ _ _ h => h) (by kernel_rfl) hS0 ?hy19 ?_
              case hy19 => (intro W hW; clear hW; go_simp; try rfl)
              simp only [Act.put, List.setIfInBounds_toArray, List.set_cons_zero, List.set_cons_succ]
              refine takeInH 1 18 ?v20 rfl rfl (by kernel_rfl) (by kernel_rfl) (by kernel_rfl) (fun _ _ _ h => h) (by kernel_rfl) hS0 ?hy20 ?_
              case hy20 => (intro W hW; clear hW; go_simp; try rfl)
              simp only [Act.put, List.setIfInBounds_toArray, List.set_cons_zero, List.set_cons_succ]
              refine takeInH 2 19 ?v21 rfl rfl (by kernel_rfl) (by kernel_rfl) (by kernel_rfl) (fun _ _ _ h => h) (by kernel_rfl) hS0 ?hy21 ?_
              case hy21 => (intro W hW; clear hW; go_simp; try rfl)
              simp only [Act.put, List.setIfInBounds_toArray, List.set_cons_zero, List.set_cons_succ]
              refine takeInH 3 20 ?v22 rfl rfl (by kernel_rfl) (by kernel_rfl) (by kernel_rfl) (fun _ _ _ h => h) (by kernel_rfl) hS0 ?hy22 ?_
              case hy22 => (intro W hW; have e0 := bcell hW c0; have e1 := bcell hW c1; have e2 := bcell hW c2; have e3 := bcell hW c3; have e4 := bcell hW d0; have e5 := bcell hW d1; have e6 := bcell hW d2; have e7 := bcell hW d3; clear hW; go_simp; try rfl)
              simp only [Act.put, List.setIfInBounds_toArray, List.set_cons_zero, List.set_cons_succ]
              refine takeInH 4 21 ?v23 rfl rfl (by kernel_rfl) (by kernel_rfl) (by kernel_rfl) (fun _ _ _ h => h) (by kernel_rfl) hS0 ?hy23 ?_
              case hy23 => (intro W hW; clear hW; go_simp; try rfl)
              simp only [Act.put, List.setIfInBounds_toArray, List.set_cons_zero, List.set_cons_succ]
              refine takeInH 5 22 ?v24 rfl rfl (by kernel_rfl) (by kernel_rfl) (by kernel_rfl) (fun _ _ _ h => h) (by kernel_rfl) hS0 ?hy24 ?_
              case hy24 => (intro W hW; clear hW; go_simp; try rfl)
              simp only [Act.put, List.setIfInBounds_toArray, List.set_cons_zero, List.set_cons_succ]
              refine takeInH 6 23 ?v25 rfl rfl (by kernel_rfl) (by kernel_rfl) (by kernel_rfl) (fun _ _ _ h => h) (by kernel_rfl) hS0 ?hy25 ?_
              case hy25 => (intro W hW; clear hW; go_simp; try rfl)
              simp only [Act.put, List.setIfInBounds_toArray, List.set_cons_zero, List.set_cons_succ]
              refine takeInH 7 24 ?v26 rfl rfl (by kernel_rfl) (by kernel_rfl) (by kernel_rfl) (fun _ _ _ h => h) (by kernel_rfl) hS0 ?hy26 ?_
              case hy26 => (intro W hW; have e0 := bcell hW c0; have e1 := bcell hW c1; have e2 := bcell hW c2; have e3 := bcell hW c3; have e4 := bcell hW d0; have e5 := bcell hW d1; have e6 := bcell hW d2; have e7 := bcell hW d3; clear hW; go_simp; try rfl)
              simp only [Act.put, List.setIfInBounds_toArray, List.set_cons_zero, List.set_cons_succ]
              refine takeInH 8 25 ?v27 rfl rfl (by kernel_rfl) (by kernel_rfl) (by kernel_rfl) (fun _ _ _ h => h) (by kernel_rfl) hS0 ?hy27 ?_
              case hy27 => (intro W hW; clear hW; go_simp; try rfl)
              simp only [Act.put, List.setIfInBounds_toArray, List.set_cons_zero, List.set_cons_succ]
              refine wpAnyH_done (by kernel_rfl) ?_ _
              go_wp2
              go_ret
              exact ⟨by rw [HNO.out]; rfl, bel_next HB.out hS0⟩
          · have e2 : (ta == ta') = false := by rw [beq_eq_false_iff_ne]; exact h1
            have HNO : Hid (decide (s = s') = false) := by
              unfold Hid
              rw [decide_eq_false_iff_not]
              intro q
              have h1 := HX.out
              rw [q, HX'.out] at h1
              cases h1
              exact h1 rfl
            go_upto_region 6 with fail
            refine wp_region_held_drew (S := fun W => Below wr.heap.size wr W) (by kernel_rfl) ((Below.refl _ wr).drew) (fun hS0 => ?_)
            refine takeInH 0 17 ?v28 rfl rfl (by kernel_rfl) (by kernel_rfl) (by kernel_rfl) (fun _ _ _ h => h) (by kernel_rfl) hS0 ?hy28 ?_
            case hy28 => (intro W hW; clear hW; go_simp; try rfl)
            simp only [Act.put, List.setIfInBounds_toArray, List.set_cons_zero, List.set_cons_succ]
            refine takeInH 1 18 ?v29 rfl rfl (by kernel_rfl) (by kernel_rfl) (by kernel_rfl) (fun _ _ _ h => h) (by kernel_rfl) hS0 ?hy29 ?_
            case hy29 => (intro W hW; clear hW; go_simp; try rfl)
            simp only [Act.put, List.setIfInBounds_toArray, List.set_cons_zero, List.set_cons_succ]
            refine takeInH 2 19 ?v30 rfl rfl (by kernel_rfl) (by kernel_rfl) (by kernel_rfl) (fun _ _ _ h => h) (by kernel_rfl) hS0 ?hy30 ?_
            case hy30 => (intro W hW; clear hW; go_simp; try rfl)
            simp only [Act.put, List.setIfInBounds_toArray, List.set_cons_zero, List.set_cons_succ]
            refine takeInH 3 20 ?v31 rfl rfl (by kernel_rfl) (by kernel_rfl) (by kernel_rfl) (fun _ _ _ h => h) (by kernel_rfl) hS0 ?hy31 ?_
            case hy31 => (intro W hW; have e0 := bcell hW c0; have e1 := bcell hW c1; have e2 := bcell hW c2; have e3 := bcell hW c3; have e4 := bcell hW d0; have e5 := bcell hW d1; have e6 := bcell hW d2; have e7 := bcell hW d3; clear hW; go_simp; try rfl)
            simp only [Act.put, List.setIfInBounds_toArray, List.set_cons_zero, List.set_cons_succ]
            refine takeInH 4 21 ?v32 rfl rfl (by kernel_rfl) (by kernel_rfl) (by kernel_rfl) (fun _ _ _ h => h) (by kernel_rfl) hS0 ?hy32 ?_
            case hy32 => (intro W hW; clear hW; go_simp; try rfl)
            simp only [Act.put, List.setIfInBounds_toArray, List.set_cons_zero, List.set_cons_succ]
            refine takeInH 5 22 ?v33 rfl rfl (by kernel_rfl) (by kernel_rfl) (by kernel_rfl) (fun _ _ _ h => h) (by kernel_rfl) hS0 ?hy33 ?_
            case hy33 => (intro W hW; clear hW; go_simp; try rfl)
            simp only [Act.put, List.setIfInBounds_toArray, List.set_cons_zero, List.set_cons_succ]
            refine takeInH 6 23 ?v34 rfl rfl (by kernel_rfl) (by kernel_rfl) (by kernel_rfl) (fun _ _ _ h => h) (by kernel_rfl) hS0 ?hy34 ?_
            case hy34 => (intro W hW; clear hW; go_simp; try rfl)
            simp only [Act.put, List.setIfInBounds_toArray, List.set_cons_zero, List.set_cons_succ]
            refine takeInH 7 24 ?v35 rfl rfl (by kernel_rfl) (by kernel_rfl) (by kernel_rfl) (fun _ _ _ h => h) (by kernel_rfl) hS0 ?hy35 ?_
            case hy35 => (intro W hW; have e0 := bcell hW c0; have e1 := bcell hW c1; have e2 := bcell hW c2; have e3 := bcell hW c3; have e4 := bcell hW d0; have e5 := bcell hW d1; have e6 := bcell hW d2; have e7 := bcell hW d3; clear hW; go_simp; try rfl)
            simp only [Act.put, List.setIfInBounds_toArray, List.set_cons_zero, List.set_cons_succ]
            refine takeInH 8 25 ?v36 rfl rfl (by kernel_rfl) (by kernel_rfl) (by kernel_rfl) (fun _ _ _ h => h) (by kernel_rfl) hS0 ?hy36 ?_
            case hy36 => (intro W hW; clear hW; go_simp; try rfl)
            simp only [Act.put, List.setIfInBounds_toArray, List.set_cons_zero, List.set_cons_succ]
            refine wpAnyH_done (by kernel_rfl) ?_ _
            go_wp2
            go_ret
            exact ⟨by rw [HNO.out]; rfl, bel_next HB.out hS0⟩
        · rw [decide_eq_false he] at hq
          have HNO : Hid (decide (s = s') = false) := by
            unfold Hid
            rw [decide_eq_false_iff_not]
            intro q
            have h1 := HX.out
            rw [q, HX'.out] at h1
            cases h1
            exact he rfl
          go_upto_region 6 with fail
          refine wp_region_held_drew (S := fun W => Below wr.heap.size wr W) (by kernel_rfl) ((Below.refl _ wr).drew) (fun hS0 => ?_)
          refine takeInH 0 17 ?v37 rfl rfl (by kernel_rfl) (by kernel_rfl) (by kernel_rfl) (fun _ _ _ h => h) (by kernel_rfl) hS0 ?hy37 ?_
          case hy37 => (intro W hW; clear hW; go_simp; try rfl)
          simp only [Act.put, List.setIfInBounds_toArray, List.set_cons_zero, List.set_cons_succ]
          refine takeInH 1 18 ?v38 rfl rfl (by kernel_rfl) (by kernel_rfl) (by kernel_rfl) (fun _ _ _ h => h) (by kernel_rfl) hS0 ?hy38 ?_
          case hy38 => (intro W hW; clear hW; go_simp; try rfl)
          simp only [Act.put, List.setIfInBounds_toArray, List.set_cons_zero, List.set_cons_succ]
          refine takeInH 2 19 ?v39 rfl rfl (by kernel_rfl) (by kernel_rfl) (by kernel_rfl) (fun _ _ _ h => h) (by kernel_rfl) hS0 ?hy39 ?_
          case hy39 => (intro W hW; clear hW; go_simp; try rfl)
          simp only [Act.put, List.setIfInBounds_toArray, List.set_cons_zero, List.set_cons_succ]
          refine takeInH 3 20 ?v40 rfl rfl (by kernel_rfl) (by kernel_rfl) (by kernel_rfl) (fun _ _ _ h => h) (by kernel_rfl) hS0 ?hy40 ?_
          case hy40 => (intro W hW; have e0 := bcell hW c0; have e1 := bcell hW c1; have e2 := bcell hW c2; have e3 := bcell hW c3; have e4 := bcell hW d0; have e5 := bcell hW d1; have e6 := bcell hW d2; have e7 := bcell hW d3; clear hW; go_simp; try rfl)
          simp only [Act.put, List.setIfInBounds_toArray, List.set_cons_zero, List.set_cons_succ]
          refine takeInH 4 21 ?v41 rfl rfl (by kernel_rfl) (by kernel_rfl) (by kernel_rfl) (fun _ _ _ h => h) (by kernel_rfl) hS0 ?hy41 ?_
          case hy41 => (intro W hW; clear hW; go_simp; try rfl)
          simp only [Act.put, List.setIfInBounds_toArray, List.set_cons_zero, List.set_cons_succ]
          refine takeInH 5 22 ?v42 rfl rfl (by kernel_rfl) (by kernel_rfl) (by kernel_rfl) (fun _ _ _ h => h) (by kernel_rfl) hS0 ?hy42 ?_
          case hy42 => (intro W hW; clear hW; go_simp; try rfl)
          simp only [Act.put, List.setIfInBounds_toArray, List.set_cons_zero, List.set_cons_succ]
          refine takeInH 6 23 ?v43 rfl rfl (by kernel_rfl) (by kernel_rfl) (by kernel_rfl) (fun _ _ _ h => h) (by kernel_rfl) hS0 ?hy43 ?_
          case hy43 => (intro W hW; clear hW; go_simp; try rfl)
          simp only [Act.put, List.setIfInBounds_toArray, List.set_cons_zero, List.set_cons_succ]
          refine takeInH 7 24 ?v44 rfl rfl (by kernel_rfl) (by kernel_rfl) (by kernel_rfl) (fun _ _ _ h => h) (by kernel_rfl) hS0 ?hy44 ?_
          case hy44 => (intro W hW; have e0 := bcell hW c0; have e1 := bcell hW c1; have e2 := bcell hW c2; have e3 := bcell hW c3; have e4 := bcell hW d0; have e5 := bcell hW d1; have e6 := bcell hW d2; have e7 := bcell hW d3; clear hW; go_simp; try rfl)
          simp only [Act.put, List.setIfInBounds_toArray, List.set_cons_zero, List.set_cons_succ]
          refine takeInH 8 25 ?v45 rfl rfl (by kernel_rfl) (by kernel_rfl) (by kernel_rfl) (fun _ _ _ h => h) (by kernel_rfl) hS0 ?hy45 ?_
          case hy45 => (intro W hW; clear hW; go_simp; try rfl)
          simp only [Act.put, List.setIfInBounds_toArray, List.set_cons_zero, List.set_cons_succ]
          refine wpAnyH_done (by kernel_rfl) ?_ _
          go_wp2
          go_ret
          exact ⟨by rw [HNO.out]; rfl, bel_next HB.out hS0⟩
      · obtain rfl : k0 = n := by omega
        have HR : Hid (s = s') := by
          have := HF.out
          rwa [List.take_of_length_le (by rw [HLEN.out]; exact Nat.le_refl _), List.take_of_length_le (by rw [HLEN'.out]; exact Nat.le_refl _)] at this
        clear HF
        go_wp2
        go_ret
        exact ⟨by rw [decide_eq_true HR.out]; rfl, HB.out⟩
  · have HNO : Hid (decide (s = s') = false) := by
      unfold Hid
      rw [decide_eq_false_iff_not]
      intro q
      have := HLEN.out
      rw [q, HLEN'.out] at this
      exact hnn this.symm
    have hnz : ¬ (n : Int) = (n' : Int) := by omega
    have hnb : ((n : Int) == (n' : Int)) = false := by rw [beq_eq_false_iff_ne]; exact hnz
    go_enter Try.func15, Try.ntmps15
    go_wp2
    go_ret
    exact ⟨by rw [HNO.out]; rfl, Below.refl _ _⟩
theorem setN_put {s : List Nt} (hs : SrtG kN s) (x : Nt) (h : getG kN s x.1 = none ∨ ∃ y, getG kN s x.1 = some y ∧ laterN x y = true) : goG kN x.1 x s [] false = setN s x := by
  rw [goG_some hs]
  unfold setN
  rcases h with h | ⟨y, h, hl⟩
  · rw [h]
  · rw [h]
    simp only
    rw [if_pos hl]
theorem setN_not {s : List Nt} {x y : Nt} (h : getG kN s x.1 = some y) (hl : laterN x y = false) : setN s x = s := by
  unfold setN
  rw [h]
  simp only
  rw [if_neg (by rw [hl]; simp)]
set_option maxHeartbeats 16000000 in
theorem Set12_ref (a : Option Addr) (n cap : Nat) (s : List Nt) (t : ByteArray) (ta rp : Int) (wd : ByteArray) (w : World) (hA : NN w a n s) (hC : CP a n cap) (hM : mayR12 s = true) (ht : mayK t = true) (hn : n ≤ 100000) : Calls Try.prog 16 #[.slice a n cap, .agg #[.string t, .int .i64 ta, .int .i64 rp, .string wd]] w fun e w' => ∃ p cp, e = .returned (.slice p (setN s (t, ta, rp, wd)).length cp) ∧ NN w' p (setN s (t, ta, rp, wd)).length (setN s (t, ta, rp, wd)) ∧ CP p (setN s (t, ta, rp, wd)).length cp ∧ Below w.heap.size w w' := by
  have HV := hide hA
  have HC := hide hC
  have HLEN := hide hA.1
  have hS := (mayG_iff.1 hM).2.1
  have HGT := hide (fun W (g : NN W a n s) => Get12_ref a n cap s t W g)
  have HB0 := hide (bel1 w (.cells #[.string t, .int .i64 ta, .int .i64 rp, .string wd] 24))
  have n0 := cell_new w #[.string t, .int .i64 ta, .int .i64 rp, .string wd] 24 _ rfl 0 _ rfl
  have n1 := cell_new w #[.string t, .int .i64 ta, .int .i64 rp, .string wd] 24 _ rfl 1 _ rfl
  have n2 := cell_new w #[.string t, .int .i64 ta, .int .i64 rp, .string wd] 24 _ rfl 2 _ rfl
  have n3 := cell_new w #[.string t, .int .i64 ta, .int .i64 rp, .string wd] 24 _ rfl 3 _ rfl
  have htz : ¬ t.size = 0 := by simp [mayK] at ht; omega
  clear hA hC ht
  rcases hg : getG kN s t with _ | ⟨kx, tx, rx, wx⟩
  · have HFIN : Hid (goG kN t (t, ta, rp, wd) s [] false = setN s (t, ta, rp, wd)) := setN_put hS (t, ta, rp, wd) (.inl hg)
    rw [hg] at HGT
    clear hg hS hM htz
    generalize setN s (t, ta, rp, wd) = Fin at *
    unfold vNt at HGT
    go_enter Try.func16, Try.ntmps16
    go_upto_region 2 with (go_at_call 13; refine (HGT.out _ (HV.out.below HB0.out)).mono ?_; rintro e w1 ⟨rfl, hb⟩; replace HB0 := hide (bel_next HB0.out hb); replace n0 := bcell hb n0; replace n1 := bcell hb n1; replace n2 := bcell hb n2; replace n3 := bcell hb n3; clear hb)
    have BQ := hide (bel1 w1 (.cells #[.string ⟨#[]⟩, .int .i64 0, .int .i64 0, .string ⟨#[]⟩] 24))
    have z0 := cell_new w1 #[.string ⟨#[]⟩, .int .i64 0, .int .i64 0, .string ⟨#[]⟩] 24 _ rfl 0 _ rfl
    replace HB0 := hide (bel_next HB0.out BQ.out)
    replace n0 := bcell BQ.out n0
    replace n1 := bcell BQ.out n1
    replace n2 := bcell BQ.out n2
    replace n3 := bcell BQ.out n3
    clear BQ
    go_upto_region 4 with fail
    clear z0 HGT
    generalize hwu : w1.alloc (.cells #[.string ⟨#[]⟩, .int .i64 0, .int .i64 0, .string ⟨#[]⟩] 24) = u at *
    clear hwu
    have HVU := hide (HV.out.below HB0.out)
    have N0 := hide n0
    have N1 := hide n1
    have N2 := hide n2
    have N3 := hide n3
    have HO0 : Hid (OwnR encN 4 24 u.heap.size (u.alloc (.cells #[] 24)) (.slice (some ⟨u.heap.size, 0, none⟩) 0 0) []) := OwnR.made u u.heap.size u.heap.size rfl (Nat.le_refl _)
    have HBA := hide (bel1 u (.cells #[] 24))
    have HG0 : Hid (goG kN t (t, ta, rp, wd) (s.drop 0) [] false = Fin) := HFIN.out
    clear HFIN
    go_wp2
    go_loopw [6, 7, 8] (fun V vd v wr => ∃ (k : Nat) (d : Bool) (out : List Nt), k ≤ n ∧ v = .int .i64 k ∧ vd = .bool d ∧ Hid (OwnR encN 4 24 u.heap.size wr V out) ∧ Hid (goG kN t (t, ta, rp, wd) (s.drop k) out d = Fin) ∧ Hid (out.length ≤ 2 * k) ∧ Hid (Below u.heap.size u wr)) (fun _ _ v _ => n - (intOf v).toNat)
    case atStart => exact ⟨0, false, [], by omega, rfl, rfl, HO0, HG0, (show _ ≤ _ by simp), HBA⟩
    case round =>
      clear HO0 HG0 HBA
      obtain ⟨k0, d, out, hk, rfl, rfl, HO, HG, HOL, HB⟩ := hrel
      replace n0 := bcell HB.out N0.out
      replace n1 := bcell HB.out N1.out
      replace n2 := bcell HB.out N2.out
      replace n3 := bcell HB.out N3.out
      by_cases hlt : k0 < n
      · obtain ⟨b, off, rfl⟩ := HV.out.addr (by omega)
        obtain ⟨k, tb, rb, wb, hx, q0, q1, q2, q3⟩ := HVU.out.at k0 hlt
        have C0 := hide q0
        have C1 := hide q1
        have C2 := hide q2
        have C3 := hide q3
        have HX := hide hx
        have c0 := bcell HB.out q0
        have c1 := bcell HB.out q1
        have c2 := bcell HB.out q2
        have c3 := bcell HB.out q3
        have hk0 : (0 : Int) ≤ (k0 : Int) := by omega
        have hk1 : (k0 : Int) < (n : Int) := by omega
        have hq := eqK k t
        clear hx q0 q1 q2 q3
        cases d
        · rcases hl : Op.bytesLess k.toList t.toList with _ | _
          · by_cases he : k = t
            · rw [decide_eq_true he] at hq
              have HG2 : Hid (goG kN t (t, ta, rp, wd) (s.drop (k0 + 1)) (out ++ [(t, ta, rp, wd)]) true = Fin) := by
                unfold Hid
                rw [← HG.out, drop_cons HX.out, goG]
                simp only [show ltK (kN (k, tb, rb, wb)) t = false from hl, if_pos (show kN (k, tb, rb, wb) = t from he)]
                rfl
              have HOL2 : Hid (((out ++ [(t, ta, rp, wd)])).length ≤ 2 * (k0 + 1)) := by have h9 := HOL.out; unfold Hid; first | omega | (simp; omega)
              clear he
              go_upto_region 9 with fail
              refine wp_region_held_drew (S := fun W => Below wr.heap.size wr W) (by kernel_rfl) ((Below.refl _ wr).drew) (fun hS0 => ?_)
              refine takeInH 0 30 ?v46 rfl rfl (by kernel_rfl) (by kernel_rfl) (by kernel_rfl) (fun _ _ _ h => h) (by kernel_rfl) hS0 ?hy46 ?_
              case hy46 => (intro W hW; clear hW; go_simp; try rfl)
              simp only [Act.put, List.setIfInBounds_toArray, List.set_cons_zero, List.set_cons_succ]
              refine takeInH 1 31 ?v47 rfl rfl (by kernel_rfl) (by kernel_rfl) (by kernel_rfl) (fun _ _ _ h => h) (by kernel_rfl) hS0 ?hy47 ?_
              case hy47 => (intro W hW; clear hW; go_simp; try rfl)
              simp only [Act.put, List.setIfInBounds_toArray, List.set_cons_zero, List.set_cons_succ]
              refine takeInH 2 32 ?v48 rfl rfl (by kernel_rfl) (by kernel_rfl) (by kernel_rfl) (fun _ _ _ h => h) (by kernel_rfl) hS0 ?hy48 ?_
              case hy48 => (intro W hW; clear hW; go_simp; try rfl)
              simp only [Act.put, List.setIfInBounds_toArray, List.set_cons_zero, List.set_cons_succ]
              refine takeInH 3 33 ?v49 rfl rfl (by kernel_rfl) (by kernel_rfl) (by kernel_rfl) (fun _ _ _ h => h) (by kernel_rfl) hS0 ?hy49 ?_
              case hy49 => (intro W hW; clear hW; go_simp; try rfl)
              simp only [Act.put, List.setIfInBounds_toArray, List.set_cons_zero, List.set_cons_succ]
              refine takeInH 4 34 ?v50 rfl rfl (by kernel_rfl) (by kernel_rfl) (by kernel_rfl) (fun _ _ _ h => h) (by kernel_rfl) hS0 ?hy50 ?_
              case hy50 => (intro W hW; clear hW; go_simp; try rfl)
              simp only [Act.put, List.setIfInBounds_toArray, List.set_cons_zero, List.set_cons_succ]
              refine takeInH 5 35 ?v51 rfl rfl (by kernel_rfl) (by kernel_rfl) (by kernel_rfl) (fun _ _ _ h => h) (by kernel_rfl) hS0 ?hy51 ?_
              case hy51 => (intro W hW; clear hW; go_simp; try rfl)
              simp only [Act.put, List.setIfInBounds_toArray, List.set_cons_zero, List.set_cons_succ]
              refine takeInH 6 36 ?v52 rfl rfl (by kernel_rfl) (by kernel_rfl) (by kernel_rfl) (fun _ _ _ h => h) (by kernel_rfl) hS0 ?hy52 ?_
              case hy52 => (intro W hW; clear hW; go_simp; try rfl)
              simp only [Act.put, List.setIfInBounds_toArray, List.set_cons_zero, List.set_cons_succ]
              refine takeInH 7 37 ?v53 rfl rfl (by kernel_rfl) (by kernel_rfl) (by kernel_rfl) (fun _ _ _ h => h) (by kernel_rfl) hS0 ?hy53 ?_
              case hy53 => (intro W hW; have e0 := bcell hW c0; have e1 := bcell hW n0; clear hW; go_simp; try rfl)
              simp only [Act.put, List.setIfInBounds_toArray, List.set_cons_zero, List.set_cons_succ]
              refine takeInH 8 38 ?v54 rfl rfl (by kernel_rfl) (by kernel_rfl) (by kernel_rfl) (fun _ _ _ h => h) (by kernel_rfl) hS0 ?hy54 ?_
              case hy54 => (intro W hW; clear hW; go_simp; try rfl)
              simp only [Act.put, List.setIfInBounds_toArray, List.set_cons_zero, List.set_cons_succ]
              refine takeInH 9 39 ?v55 rfl rfl (by kernel_rfl) (by kernel_rfl) (by kernel_rfl) (fun _ _ _ h => h) (by kernel_rfl) hS0 ?hy55 ?_
              case hy55 => (intro W hW; have e0 := bcell hW c0; have e1 := bcell hW n0; clear hW; go_simp; try rfl)
              simp only [Act.put, List.setIfInBounds_toArray, List.set_cons_zero, List.set_cons_succ]
              refine takeInH 10 40 ?v56 rfl rfl (by kernel_rfl) (by kernel_rfl) (by kernel_rfl) (fun _ _ _ h => h) (by kernel_rfl) hS0 ?hy56 ?_
              case hy56 => (intro W hW; clear hW; go_simp; try rfl)
              simp only [Act.put, List.setIfInBounds_toArray, List.set_cons_zero, List.set_cons_succ]
              refine takeInH 11 41 ?v57 rfl rfl (by kernel_rfl) (by kernel_rfl) (by kernel_rfl) (fun _ _ _ h => h) (by kernel_rfl) hS0 ?hy57 ?_
              case hy57 => (intro W hW; clear hW; go_simp; try rfl)
              simp only [Act.put, List.setIfInBounds_toArray, List.set_cons_zero, List.set_cons_succ]
              refine wpAnyH_done (by kernel_rfl) ?_ _
              replace HO := hide (HO.out.below hS0)
              replace HB := hide (bel_next HB.out hS0)
              replace c0 := bcell HB.out C0.out
              replace c1 := bcell HB.out C1.out
              replace c2 := bcell HB.out C2.out
              replace c3 := bcell HB.out C3.out
              replace n0 := bcell HB.out N0.out
              replace n1 := bcell HB.out N1.out
              replace n2 := bcell HB.out N2.out
              replace n3 := bcell HB.out N3.out
              clear hS0
              generalize wr.drew = x1 at *
              go_wp2_with (at_builtin; refine Stop.at ?_)
              unfold Stop
              have BQ1 := hide (bel1 x1 (.cells #[.string t, .int .i64 ta, .int .i64 rp, .string wd] 24))
              refine append_rows rfl _ _ 22 rfl Try.underlying22 Try.infoNot rfl (by decide) (by decide) encN_len encN_one u.heap.size _ out [(t, ta, rp, wd)] rfl (HO.out.below BQ1.out) (some ⟨x1.heap.size, 0, none⟩) 1 1 rfl (fun h => by cases h) (RS.new encN_len x1 _ rfl [(t, ta, rp, wd)] _ (by simp [encN]) _ _ 1 rfl (by decide)) (by have h9 := HOL.out; simp at h9 ⊢; omega) (Nat.le_trans HB.out.size BQ1.out.size) ?_
              intro v1 w1 ho1 hg1 hbel1
              have HO1 := hide ho1
              have HB1 := hide (hbel1 _ (bel_next HB.out BQ1.out))
              clear ho1 hg1 hbel1 BQ1
              replace HO := HO1
              replace HB := HB1
              clear HO1 HB1
              replace c0 := bcell HB.out C0.out
              replace c1 := bcell HB.out C1.out
              replace c2 := bcell HB.out C2.out
              replace c3 := bcell HB.out C3.out
              replace n0 := bcell HB.out N0.out
              replace n1 := bcell HB.out N1.out
              replace n2 := bcell HB.out N2.out
              replace n3 := bcell HB.out N3.out
              replace HOL : Hid ((out ++ [(t, ta, rp, wd)]).length ≤ 2 * k0 + 1) := by have h9 := HOL.out; unfold Hid; simp; omega
              go_upto_region 12 with fail
              refine wp_region_held_drew (S := fun W => Below w1.heap.size w1 W) (by kernel_rfl) ((Below.refl _ w1).drew) (fun hS0 => ?_)
              refine takeInH 0 46 ?v58 rfl rfl (by kernel_rfl) (by kernel_rfl) (by kernel_rfl) (fun _ _ _ h => h) (by kernel_rfl) hS0 ?hy58 ?_
              case hy58 => (intro W hW; clear hW; go_simp; try rfl)
              simp only [Act.put, List.setIfInBounds_toArray, List.set_cons_zero, List.set_cons_succ]
              refine takeInH 1 47 ?v59 rfl rfl (by kernel_rfl) (by kernel_rfl) (by kernel_rfl) (fun _ _ _ h => h) (by kernel_rfl) hS0 ?hy59 ?_
              case hy59 => (intro W hW; clear hW; go_simp; try rfl)
              simp only [Act.put, List.setIfInBounds_toArray, List.set_cons_zero, List.set_cons_succ]
              refine takeInH 2 48 ?v60 rfl rfl (by kernel_rfl) (by kernel_rfl) (by kernel_rfl) (fun _ _ _ h => h) (by kernel_rfl) hS0 ?hy60 ?_
              case hy60 => (intro W hW; clear hW; go_simp; try rfl)
              simp only [Act.put, List.setIfInBounds_toArray, List.set_cons_zero, List.set_cons_succ]
              refine takeInH 3 49 ?v61 rfl rfl (by kernel_rfl) (by kernel_rfl) (by kernel_rfl) (fun _ _ _ h => h) (by kernel_rfl) hS0 ?hy61 ?_
              case hy61 => (intro W hW; clear hW; go_simp; try rfl)
              simp only [Act.put, List.setIfInBounds_toArray, List.set_cons_zero, List.set_cons_succ]
              refine takeInH 4 50 ?v62 rfl rfl (by kernel_rfl) (by kernel_rfl) (by kernel_rfl) (fun _ _ _ h => h) (by kernel_rfl) hS0 ?hy62 ?_
              case hy62 => (intro W hW; have e0 := bcell hW c0; have e1 := bcell hW n0; clear hW; go_simp; try rfl)
              simp only [Act.put, List.setIfInBounds_toArray, List.set_cons_zero, List.set_cons_succ]
              refine takeInH 5 51 ?v63 rfl rfl (by kernel_rfl) (by kernel_rfl) (by kernel_rfl) (fun _ _ _ h => h) (by kernel_rfl) hS0 ?hy63 ?_
              case hy63 => (intro W hW; clear hW; go_simp; try rfl)
              simp only [Act.put, List.setIfInBounds_toArray, List.set_cons_zero, List.set_cons_succ]
              refine takeInH 6 52 ?v64 rfl rfl (by kernel_rfl) (by kernel_rfl) (by kernel_rfl) (fun _ _ _ h => h) (by kernel_rfl) hS0 ?hy64 ?_
              case hy64 => (intro W hW; have e0 := bcell hW c0; have e1 := bcell hW n0; clear hW; go_simp; try rfl)
              simp only [Act.put, List.setIfInBounds_toArray, List.set_cons_zero, List.set_cons_succ]
              refine takeInH 7 53 ?v65 rfl rfl (by kernel_rfl) (by kernel_rfl) (by kernel_rfl) (fun _ _ _ h => h) (by kernel_rfl) hS0 ?hy65 ?_
              case hy65 => (intro W hW; clear hW; go_simp; try rfl)
              simp only [Act.put, List.setIfInBounds_toArray, List.set_cons_zero, List.set_cons_succ]
              refine wpAnyH_done (by kernel_rfl) ?_ _
              replace HO := hide (HO.out.below hS0)
              replace HB := hide (bel_next HB.out hS0)
              replace c0 := bcell HB.out C0.out
              replace c1 := bcell HB.out C1.out
              replace c2 := bcell HB.out C2.out
              replace c3 := bcell HB.out C3.out
              replace n0 := bcell HB.out N0.out
              replace n1 := bcell HB.out N1.out
              replace n2 := bcell HB.out N2.out
              replace n3 := bcell HB.out N3.out
              clear hS0
              generalize w1.drew = x2 at *
              go_wp2
              go_roundw
              case rel => exact ⟨k0 + 1, true, (out ++ [(t, ta, rp, wd)]), by omega, by go_num, rfl, HO, HG2, HOL2, HB⟩
              case measure => simp [intOf]; omega
            · rw [decide_eq_false he] at hq
              have HG2 : Hid (goG kN t (t, ta, rp, wd) (s.drop (k0 + 1)) ((out ++ [(t, ta, rp, wd)]) ++ [(k, tb, rb, wb)]) true = Fin) := by
                unfold Hid
                rw [← HG.out, drop_cons HX.out, goG]
                simp only [show ltK (kN (k, tb, rb, wb)) t = false from hl, if_neg (show ¬ kN (k, tb, rb, wb) = t from he)]
                rfl
              have HOL2 : Hid ((((out ++ [(t, ta, rp, wd)]) ++ [(k, tb, rb, wb)])).length ≤ 2 * (k0 + 1)) := by have h9 := HOL.out; unfold Hid; first | omega | (simp; omega)
              clear he
              go_upto_region 9 with fail
              refine wp_region_held_drew (S := fun W => Below wr.heap.size wr W) (by kernel_rfl) ((Below.refl _ wr).drew) (fun hS0 => ?_)
              refine takeInH 0 30 ?v66 rfl rfl (by kernel_rfl) (by kernel_rfl) (by kernel_rfl) (fun _ _ _ h => h) (by kernel_rfl) hS0 ?hy66 ?_
              case hy66 => (intro W hW; clear hW; go_simp; try rfl)
              simp only [Act.put, List.setIfInBounds_toArray, List.set_cons_zero, List.set_cons_succ]
              refine takeInH 1 31 ?v67 rfl rfl (by kernel_rfl) (by kernel_rfl) (by kernel_rfl) (fun _ _ _ h => h) (by kernel_rfl) hS0 ?hy67 ?_
              case hy67 => (intro W hW; clear hW; go_simp; try rfl)
              simp only [Act.put, List.setIfInBounds_toArray, List.set_cons_zero, List.set_cons_succ]
              refine takeInH 2 32 ?v68 rfl rfl (by kernel_rfl) (by kernel_rfl) (by kernel_rfl) (fun _ _ _ h => h) (by kernel_rfl) hS0 ?hy68 ?_
              case hy68 => (intro W hW; clear hW; go_simp; try rfl)
              simp only [Act.put, List.setIfInBounds_toArray, List.set_cons_zero, List.set_cons_succ]
              refine takeInH 3 33 ?v69 rfl rfl (by kernel_rfl) (by kernel_rfl) (by kernel_rfl) (fun _ _ _ h => h) (by kernel_rfl) hS0 ?hy69 ?_
              case hy69 => (intro W hW; clear hW; go_simp; try rfl)
              simp only [Act.put, List.setIfInBounds_toArray, List.set_cons_zero, List.set_cons_succ]
              refine takeInH 4 34 ?v70 rfl rfl (by kernel_rfl) (by kernel_rfl) (by kernel_rfl) (fun _ _ _ h => h) (by kernel_rfl) hS0 ?hy70 ?_
              case hy70 => (intro W hW; clear hW; go_simp; try rfl)
              simp only [Act.put, List.setIfInBounds_toArray, List.set_cons_zero, List.set_cons_succ]
              refine takeInH 5 35 ?v71 rfl rfl (by kernel_rfl) (by kernel_rfl) (by kernel_rfl) (fun _ _ _ h => h) (by kernel_rfl) hS0 ?hy71 ?_
              case hy71 => (intro W hW; clear hW; go_simp; try rfl)
              simp only [Act.put, List.setIfInBounds_toArray, List.set_cons_zero, List.set_cons_succ]
              refine takeInH 6 36 ?v72 rfl rfl (by kernel_rfl) (by kernel_rfl) (by kernel_rfl) (fun _ _ _ h => h) (by kernel_rfl) hS0 ?hy72 ?_
              case hy72 => (intro W hW; clear hW; go_simp; try rfl)
              simp only [Act.put, List.setIfInBounds_toArray, List.set_cons_zero, List.set_cons_succ]
              refine takeInH 7 37 ?v73 rfl rfl (by kernel_rfl) (by kernel_rfl) (by kernel_rfl) (fun _ _ _ h => h) (by kernel_rfl) hS0 ?hy73 ?_
              case hy73 => (intro W hW; have e0 := bcell hW c0; have e1 := bcell hW n0; clear hW; go_simp; try rfl)
              simp only [Act.put, List.setIfInBounds_toArray, List.set_cons_zero, List.set_cons_succ]
              refine takeInH 8 38 ?v74 rfl rfl (by kernel_rfl) (by kernel_rfl) (by kernel_rfl) (fun _ _ _ h => h) (by kernel_rfl) hS0 ?hy74 ?_
              case hy74 => (intro W hW; clear hW; go_simp; try rfl)
              simp only [Act.put, List.setIfInBounds_toArray, List.set_cons_zero, List.set_cons_succ]
              refine takeInH 9 39 ?v75 rfl rfl (by kernel_rfl) (by kernel_rfl) (by kernel_rfl) (fun _ _ _ h => h) (by kernel_rfl) hS0 ?hy75 ?_
              case hy75 => (intro W hW; have e0 := bcell hW c0; have e1 := bcell hW n0; clear hW; go_simp; try rfl)
              simp only [Act.put, List.setIfInBounds_toArray, List.set_cons_zero, List.set_cons_succ]
              refine takeInH 10 40 ?v76 rfl rfl (by kernel_rfl) (by kernel_rfl) (by kernel_rfl) (fun _ _ _ h => h) (by kernel_rfl) hS0 ?hy76 ?_
              case hy76 => (intro W hW; clear hW; go_simp; try rfl)
              simp only [Act.put, List.setIfInBounds_toArray, List.set_cons_zero, List.set_cons_succ]
              refine takeInH 11 41 ?v77 rfl rfl (by kernel_rfl) (by kernel_rfl) (by kernel_rfl) (fun _ _ _ h => h) (by kernel_rfl) hS0 ?hy77 ?_
              case hy77 => (intro W hW; clear hW; go_simp; try rfl)
              simp only [Act.put, List.setIfInBounds_toArray, List.set_cons_zero, List.set_cons_succ]
              refine wpAnyH_done (by kernel_rfl) ?_ _
              replace HO := hide (HO.out.below hS0)
              replace HB := hide (bel_next HB.out hS0)
              replace c0 := bcell HB.out C0.out
              replace c1 := bcell HB.out C1.out
              replace c2 := bcell HB.out C2.out
              replace c3 := bcell HB.out C3.out
              replace n0 := bcell HB.out N0.out
              replace n1 := bcell HB.out N1.out
              replace n2 := bcell HB.out N2.out
              replace n3 := bcell HB.out N3.out
              clear hS0
              generalize wr.drew = x1 at *
              go_wp2_with (at_builtin; refine Stop.at ?_)
              unfold Stop
              have BQ1 := hide (bel1 x1 (.cells #[.string t, .int .i64 ta, .int .i64 rp, .string wd] 24))
              refine append_rows rfl _ _ 22 rfl Try.underlying22 Try.infoNot rfl (by decide) (by decide) encN_len encN_one u.heap.size _ out [(t, ta, rp, wd)] rfl (HO.out.below BQ1.out) (some ⟨x1.heap.size, 0, none⟩) 1 1 rfl (fun h => by cases h) (RS.new encN_len x1 _ rfl [(t, ta, rp, wd)] _ (by simp [encN]) _ _ 1 rfl (by decide)) (by have h9 := HOL.out; simp at h9 ⊢; omega) (Nat.le_trans HB.out.size BQ1.out.size) ?_
              intro v1 w1 ho1 hg1 hbel1
              have HO1 := hide ho1
              have HB1 := hide (hbel1 _ (bel_next HB.out BQ1.out))
              clear ho1 hg1 hbel1 BQ1
              replace HO := HO1
              replace HB := HB1
              clear HO1 HB1
              replace c0 := bcell HB.out C0.out
              replace c1 := bcell HB.out C1.out
              replace c2 := bcell HB.out C2.out
              replace c3 := bcell HB.out C3.out
              replace n0 := bcell HB.out N0.out
              replace n1 := bcell HB.out N1.out
              replace n2 := bcell HB.out N2.out
              replace n3 := bcell HB.out N3.out
              replace HOL : Hid ((out ++ [(t, ta, rp, wd)]).length ≤ 2 * k0 + 1) := by have h9 := HOL.out; unfold Hid; simp; omega
              go_upto_region 12 with fail
              refine wp_region_held_drew (S := fun W => Below w1.heap.size w1 W) (by kernel_rfl) ((Below.refl _ w1).drew) (fun hS0 => ?_)
              refine takeInH 0 46 ?v78 rfl rfl (by kernel_rfl) (by kernel_rfl) (by kernel_rfl) (fun _ _ _ h => h) (by kernel_rfl) hS0 ?hy78 ?_
              case hy78 => (intro W hW; clear hW; go_simp; try rfl)
              simp only [Act.put, List.setIfInBounds_toArray, List.set_cons_zero, List.set_cons_succ]
              refine takeInH 1 47 ?v79 rfl rfl (by kernel_rfl) (by kernel_rfl) (by kernel_rfl) (fun _ _ _ h => h) (by kernel_rfl) hS0 ?hy79 ?_
              case hy79 => (intro W hW; clear hW; go_simp; try rfl)
              simp only [Act.put, List.setIfInBounds_toArray, List.set_cons_zero, List.set_cons_succ]
              refine takeInH 2 48 ?v80 rfl rfl (by kernel_rfl) (by kernel_rfl) (by kernel_rfl) (fun _ _ _ h => h) (by kernel_rfl) hS0 ?hy80 ?_
              case hy80 => (intro W hW; clear hW; go_simp; try rfl)
              simp only [Act.put, List.setIfInBounds_toArray, List.set_cons_zero, List.set_cons_succ]
              refine takeInH 3 49 ?v81 rfl rfl (by kernel_rfl) (by kernel_rfl) (by kernel_rfl) (fun _ _ _ h => h) (by kernel_rfl) hS0 ?hy81 ?_
              case hy81 => (intro W hW; clear hW; go_simp; try rfl)
              simp only [Act.put, List.setIfInBounds_toArray, List.set_cons_zero, List.set_cons_succ]
              refine takeInH 4 50 ?v82 rfl rfl (by kernel_rfl) (by kernel_rfl) (by kernel_rfl) (fun _ _ _ h => h) (by kernel_rfl) hS0 ?hy82 ?_
              case hy82 => (intro W hW; have e0 := bcell hW c0; have e1 := bcell hW n0; clear hW; go_simp; try rfl)
              simp only [Act.put, List.setIfInBounds_toArray, List.set_cons_zero, List.set_cons_succ]
              refine takeInH 5 51 ?v83 rfl rfl (by kernel_rfl) (by kernel_rfl) (by kernel_rfl) (fun _ _ _ h => h) (by kernel_rfl) hS0 ?hy83 ?_
              case hy83 => (intro W hW; clear hW; go_simp; try rfl)
              simp only [Act.put, List.setIfInBounds_toArray, List.set_cons_zero, List.set_cons_succ]
              refine takeInH 6 52 ?v84 rfl rfl (by kernel_rfl) (by kernel_rfl) (by kernel_rfl) (fun _ _ _ h => h) (by kernel_rfl) hS0 ?hy84 ?_
              case hy84 => (intro W hW; have e0 := bcell hW c0; have e1 := bcell hW n0; clear hW; go_simp; try rfl)
              simp only [Act.put, List.setIfInBounds_toArray, List.set_cons_zero, List.set_cons_succ]
              refine takeInH 7 53 ?v85 rfl rfl (by kernel_rfl) (by kernel_rfl) (by kernel_rfl) (fun _ _ _ h => h) (by kernel_rfl) hS0 ?hy85 ?_
              case hy85 => (intro W hW; clear hW; go_simp; try rfl)
              simp only [Act.put, List.setIfInBounds_toArray, List.set_cons_zero, List.set_cons_succ]
              refine wpAnyH_done (by kernel_rfl) ?_ _
              replace HO := hide (HO.out.below hS0)
              replace HB := hide (bel_next HB.out hS0)
              replace c0 := bcell HB.out C0.out
              replace c1 := bcell HB.out C1.out
              replace c2 := bcell HB.out C2.out
              replace c3 := bcell HB.out C3.out
              replace n0 := bcell HB.out N0.out
              replace n1 := bcell HB.out N1.out
              replace n2 := bcell HB.out N2.out
              replace n3 := bcell HB.out N3.out
              clear hS0
              generalize w1.drew = x2 at *
              go_wp2_with (at_builtin; refine Stop.at ?_)
              unfold Stop
              have BQ2 := hide (bel1 x2 (.cells #[.string k, .int .i64 tb, .int .i64 rb, .string wb] 24))
              refine append_rows rfl _ _ 22 rfl Try.underlying22 Try.infoNot rfl (by decide) (by decide) encN_len encN_one u.heap.size _ (out ++ [(t, ta, rp, wd)]) [(k, tb, rb, wb)] rfl (HO.out.below BQ2.out) (some ⟨x2.heap.size, 0, none⟩) 1 1 rfl (fun h => by cases h) (RS.new encN_len x2 _ rfl [(k, tb, rb, wb)] _ (by simp [encN]) _ _ 1 rfl (by decide)) (by have h9 := HOL.out; simp at h9 ⊢; omega) (Nat.le_trans HB.out.size BQ2.out.size) ?_
              intro v2 w2 ho2 hg2 hbel2
              have HO2 := hide ho2
              have HB2 := hide (hbel2 _ (bel_next HB.out BQ2.out))
              clear ho2 hg2 hbel2 BQ2
              replace HO := HO2
              replace HB := HB2
              clear HO2 HB2
              go_wp2
              go_roundw
              case rel => exact ⟨k0 + 1, true, ((out ++ [(t, ta, rp, wd)]) ++ [(k, tb, rb, wb)]), by omega, by go_num, rfl, HO, HG2, HOL2, HB⟩
              case measure => simp [intOf]; omega
          · have he : ¬ k = t := ltK_ne hl
            rw [decide_eq_false he] at hq
            have HG2 : Hid (goG kN t (t, ta, rp, wd) (s.drop (k0 + 1)) (out ++ [(k, tb, rb, wb)]) false = Fin) := by
              unfold Hid
              rw [← HG.out, drop_cons HX.out, goG]
              simp only [show ltK (kN (k, tb, rb, wb)) t = true from hl, if_neg (show ¬ kN (k, tb, rb, wb) = t from he)]
              rfl
            have HOL2 : Hid (((out ++ [(k, tb, rb, wb)])).length ≤ 2 * (k0 + 1)) := by have h9 := HOL.out; unfold Hid; first | omega | (simp; omega)
            clear he
            go_upto_region 9 with fail
            refine wp_region_held_drew (S := fun W => Below wr.heap.size wr W) (by kernel_rfl) ((Below.refl _ wr).drew) (fun hS0 => ?_)
            refine takeInH 0 30 ?v86 rfl rfl (by kernel_rfl) (by kernel_rfl) (by kernel_rfl) (fun _ _ _ h => h) (by kernel_rfl) hS0 ?hy86 ?_
            case hy86 => (intro W hW; clear hW; go_simp; try rfl)
            simp only [Act.put, List.setIfInBounds_toArray, List.set_cons_zero, List.set_cons_succ]
            refine takeInH 1 31 ?v87 rfl rfl (by kernel_rfl) (by kernel_rfl) (by kernel_rfl) (fun _ _ _ h => h) (by kernel_rfl) hS0 ?hy87 ?_
            case hy87 => (intro W hW; clear hW; go_simp; try rfl)
            simp only [Act.put, List.setIfInBounds_toArray, List.set_cons_zero, List.set_cons_succ]
            refine takeInH 2 32 ?v88 rfl rfl (by kernel_rfl) (by kernel_rfl) (by kernel_rfl) (fun _ _ _ h => h) (by kernel_rfl) hS0 ?hy88 ?_
            case hy88 => (intro W hW; clear hW; go_simp; try rfl)
            simp only [Act.put, List.setIfInBounds_toArray, List.set_cons_zero, List.set_cons_succ]
            refine takeInH 3 33 ?v89 rfl rfl (by kernel_rfl) (by kernel_rfl) (by kernel_rfl) (fun _ _ _ h => h) (by kernel_rfl) hS0 ?hy89 ?_
            case hy89 => (intro W hW; clear hW; go_simp; try rfl)
            simp only [Act.put, List.setIfInBounds_toArray, List.set_cons_zero, List.set_cons_succ]
            refine takeInH 4 34 ?v90 rfl rfl (by kernel_rfl) (by kernel_rfl) (by kernel_rfl) (fun _ _ _ h => h) (by kernel_rfl) hS0 ?hy90 ?_
            case hy90 => (intro W hW; clear hW; go_simp; try rfl)
            simp only [Act.put, List.setIfInBounds_toArray, List.set_cons_zero, List.set_cons_succ]
            refine takeInH 5 35 ?v91 rfl rfl (by kernel_rfl) (by kernel_rfl) (by kernel_rfl) (fun _ _ _ h => h) (by kernel_rfl) hS0 ?hy91 ?_
            case hy91 => (intro W hW; clear hW; go_simp; try rfl)
            simp only [Act.put, List.setIfInBounds_toArray, List.set_cons_zero, List.set_cons_succ]
            refine takeInH 6 36 ?v92 rfl rfl (by kernel_rfl) (by kernel_rfl) (by kernel_rfl) (fun _ _ _ h => h) (by kernel_rfl) hS0 ?hy92 ?_
            case hy92 => (intro W hW; clear hW; go_simp; try rfl)
            simp only [Act.put, List.setIfInBounds_toArray, List.set_cons_zero, List.set_cons_succ]
            refine takeInH 7 37 ?v93 rfl rfl (by kernel_rfl) (by kernel_rfl) (by kernel_rfl) (fun _ _ _ h => h) (by kernel_rfl) hS0 ?hy93 ?_
            case hy93 => (intro W hW; have e0 := bcell hW c0; have e1 := bcell hW n0; clear hW; go_simp; try rfl)
            simp only [Act.put, List.setIfInBounds_toArray, List.set_cons_zero, List.set_cons_succ]
            refine takeInH 8 38 ?v94 rfl rfl (by kernel_rfl) (by kernel_rfl) (by kernel_rfl) (fun _ _ _ h => h) (by kernel_rfl) hS0 ?hy94 ?_
            case hy94 => (intro W hW; clear hW; go_simp; try rfl)
            simp only [Act.put, List.setIfInBounds_toArray, List.set_cons_zero, List.set_cons_succ]
            refine takeInH 9 39 ?v95 rfl rfl (by kernel_rfl) (by kernel_rfl) (by kernel_rfl) (fun _ _ _ h => h) (by kernel_rfl) hS0 ?hy95 ?_
            case hy95 => (intro W hW; have e0 := bcell hW c0; have e1 := bcell hW n0; clear hW; go_simp; try rfl)
            simp only [Act.put, List.setIfInBounds_toArray, List.set_cons_zero, List.set_cons_succ]
            refine takeInH 10 40 ?v96 rfl rfl (by kernel_rfl) (by kernel_rfl) (by kernel_rfl) (fun _ _ _ h => h) (by kernel_rfl) hS0 ?hy96 ?_
            case hy96 => (intro W hW; clear hW; go_simp; try rfl)
            simp only [Act.put, List.setIfInBounds_toArray, List.set_cons_zero, List.set_cons_succ]
            refine takeInH 11 41 ?v97 rfl rfl (by kernel_rfl) (by kernel_rfl) (by kernel_rfl) (fun _ _ _ h => h) (by kernel_rfl) hS0 ?hy97 ?_
            case hy97 => (intro W hW; clear hW; go_simp; try rfl)
            simp only [Act.put, List.setIfInBounds_toArray, List.set_cons_zero, List.set_cons_succ]
            refine wpAnyH_done (by kernel_rfl) ?_ _
            replace HO := hide (HO.out.below hS0)
            replace HB := hide (bel_next HB.out hS0)
            replace c0 := bcell HB.out C0.out
            replace c1 := bcell HB.out C1.out
            replace c2 := bcell HB.out C2.out
            replace c3 := bcell HB.out C3.out
            replace n0 := bcell HB.out N0.out
            replace n1 := bcell HB.out N1.out
            replace n2 := bcell HB.out N2.out
            replace n3 := bcell HB.out N3.out
            clear hS0
            generalize wr.drew = x1 at *
            go_upto_region 12 with fail
            refine wp_region_held_drew (S := fun W => Below x1.heap.size x1 W) (by kernel_rfl) ((Below.refl _ x1).drew) (fun hS0 => ?_)
            refine takeInH 0 46 ?v98 rfl rfl (by kernel_rfl) (by kernel_rfl) (by kernel_rfl) (fun _ _ _ h => h) (by kernel_rfl) hS0 ?hy98 ?_
            case hy98 => (intro W hW; clear hW; go_simp; try rfl)
            simp only [Act.put, List.setIfInBounds_toArray, List.set_cons_zero, List.set_cons_succ]
            refine takeInH 1 47 ?v99 rfl rfl (by kernel_rfl) (by kernel_rfl) (by kernel_rfl) (fun _ _ _ h => h) (by kernel_rfl) hS0 ?hy99 ?_
            case hy99 => (intro W hW; clear hW; go_simp; try rfl)
            simp only [Act.put, List.setIfInBounds_toArray, List.set_cons_zero, List.set_cons_succ]
            refine takeInH 2 48 ?v100 rfl rfl (by kernel_rfl) (by kernel_rfl) (by kernel_rfl) (fun _ _ _ h => h) (by kernel_rfl) hS0 ?hy100 ?_
            case hy100 => (intro W hW; clear hW; go_simp; try rfl)
            simp only [Act.put, List.setIfInBounds_toArray, List.set_cons_zero, List.set_cons_succ]
            refine takeInH 3 49 ?v101 rfl rfl (by kernel_rfl) (by kernel_rfl) (by kernel_rfl) (fun _ _ _ h => h) (by kernel_rfl) hS0 ?hy101 ?_
            case hy101 => (intro W hW; clear hW; go_simp; try rfl)
            simp only [Act.put, List.setIfInBounds_toArray, List.set_cons_zero, List.set_cons_succ]
            refine takeInH 4 50 ?v102 rfl rfl (by kernel_rfl) (by kernel_rfl) (by kernel_rfl) (fun _ _ _ h => h) (by kernel_rfl) hS0 ?hy102 ?_
            case hy102 => (intro W hW; have e0 := bcell hW c0; have e1 := bcell hW n0; clear hW; go_simp; try rfl)
            simp only [Act.put, List.setIfInBounds_toArray, List.set_cons_zero, List.set_cons_succ]
            refine takeInH 5 51 ?v103 rfl rfl (by kernel_rfl) (by kernel_rfl) (by kernel_rfl) (fun _ _ _ h => h) (by kernel_rfl) hS0 ?hy103 ?_
            case hy103 => (intro W hW; clear hW; go_simp; try rfl)
            simp only [Act.put, List.setIfInBounds_toArray, List.set_cons_zero, List.set_cons_succ]
            refine takeInH 6 52 ?v104 rfl rfl (by kernel_rfl) (by kernel_rfl) (by kernel_rfl) (fun _ _ _ h => h) (by kernel_rfl) hS0 ?hy104 ?_
            case hy104 => (intro W hW; have e0 := bcell hW c0; have e1 := bcell hW n0; clear hW; go_simp; try rfl)
            simp only [Act.put, List.setIfInBounds_toArray, List.set_cons_zero, List.set_cons_succ]
            refine takeInH 7 53 ?v105 rfl rfl (by kernel_rfl) (by kernel_rfl) (by kernel_rfl) (fun _ _ _ h => h) (by kernel_rfl) hS0 ?hy105 ?_
            case hy105 => (intro W hW; clear hW; go_simp; try rfl)
            simp only [Act.put, List.setIfInBounds_toArray, List.set_cons_zero, List.set_cons_succ]
            refine wpAnyH_done (by kernel_rfl) ?_ _
            replace HO := hide (HO.out.below hS0)
            replace HB := hide (bel_next HB.out hS0)
            replace c0 := bcell HB.out C0.out
            replace c1 := bcell HB.out C1.out
            replace c2 := bcell HB.out C2.out
            replace c3 := bcell HB.out C3.out
            replace n0 := bcell HB.out N0.out
            replace n1 := bcell HB.out N1.out
            replace n2 := bcell HB.out N2.out
            replace n3 := bcell HB.out N3.out
            clear hS0
            generalize x1.drew = x2 at *
            go_wp2_with (at_builtin; refine Stop.at ?_)
            unfold Stop
            have BQ2 := hide (bel1 x2 (.cells #[.string k, .int .i64 tb, .int .i64 rb, .string wb] 24))
            refine append_rows rfl _ _ 22 rfl Try.underlying22 Try.infoNot rfl (by decide) (by decide) encN_len encN_one u.heap.size _ out [(k, tb, rb, wb)] rfl (HO.out.below BQ2.out) (some ⟨x2.heap.size, 0, none⟩) 1 1 rfl (fun h => by cases h) (RS.new encN_len x2 _ rfl [(k, tb, rb, wb)] _ (by simp [encN]) _ _ 1 rfl (by decide)) (by have h9 := HOL.out; simp at h9 ⊢; omega) (Nat.le_trans HB.out.size BQ2.out.size) ?_
            intro v2 w2 ho2 hg2 hbel2
            have HO2 := hide ho2
            have HB2 := hide (hbel2 _ (bel_next HB.out BQ2.out))
            clear ho2 hg2 hbel2 BQ2
            replace HO := HO2
            replace HB := HB2
            clear HO2 HB2
            go_wp2
            go_roundw
            case rel => exact ⟨k0 + 1, false, (out ++ [(k, tb, rb, wb)]), by omega, by go_num, rfl, HO, HG2, HOL2, HB⟩
            case measure => simp [intOf]; omega
        · rcases hl : Op.bytesLess k.toList t.toList with _ | _
          · by_cases he : k = t
            · rw [decide_eq_true he] at hq
              have HG2 : Hid (goG kN t (t, ta, rp, wd) (s.drop (k0 + 1)) out true = Fin) := by
                unfold Hid
                rw [← HG.out, drop_cons HX.out, goG]
                simp only [show ltK (kN (k, tb, rb, wb)) t = false from hl, if_pos (show kN (k, tb, rb, wb) = t from he)]
                rfl
              have HOL2 : Hid ((out).length ≤ 2 * (k0 + 1)) := by have h9 := HOL.out; unfold Hid; first | omega | (simp; omega)
              clear he
              go_upto_region 9 with fail
              refine wp_region_held_drew (S := fun W => Below wr.heap.size wr W) (by kernel_rfl) ((Below.refl _ wr).drew) (fun hS0 => ?_)
              refine takeInH 0 30 ?v106 rfl rfl (by kernel_rfl) (by kernel_rfl) (by kernel_rfl) (fun _ _ _ h => h) (by kernel_rfl) hS0 ?hy106 ?_
              case hy106 => (intro W hW; clear hW; go_simp; try rfl)
              simp only [Act.put, List.setIfInBounds_toArray, List.set_cons_zero, List.set_cons_succ]
              refine takeInH 1 31 ?v107 rfl rfl (by kernel_rfl) (by kernel_rfl) (by kernel_rfl) (fun _ _ _ h => h) (by kernel_rfl) hS0 ?hy107 ?_
              case hy107 => (intro W hW; clear hW; go_simp; try rfl)
              simp only [Act.put, List.setIfInBounds_toArray, List.set_cons_zero, List.set_cons_succ]
              refine takeInH 2 32 ?v108 rfl rfl (by kernel_rfl) (by kernel_rfl) (by kernel_rfl) (fun _ _ _ h => h) (by kernel_rfl) hS0 ?hy108 ?_
              case hy108 => (intro W hW; clear hW; go_simp; try rfl)
              simp only [Act.put, List.setIfInBounds_toArray, List.set_cons_zero, List.set_cons_succ]
              refine takeNoH 3 33 rfl rfl (by kernel_rfl) (by kernel_rfl) (by kernel_rfl) (fun _ _ _ h => h) (by kernel_rfl) hS0 ?_
              simp only [Act.put, List.setIfInBounds_toArray, List.set_cons_zero, List.set_cons_succ]
              refine takeNoH 4 34 rfl rfl (by kernel_rfl) (by kernel_rfl) (by kernel_rfl) (fun _ _ _ h => h) (by kernel_rfl) hS0 ?_
              simp only [Act.put, List.setIfInBounds_toArray, List.set_cons_zero, List.set_cons_succ]
              refine takeNoH 5 35 rfl rfl (by kernel_rfl) (by kernel_rfl) (by kernel_rfl) (fun _ _ _ h => h) (by kernel_rfl) hS0 ?_
              simp only [Act.put, List.setIfInBounds_toArray, List.set_cons_zero, List.set_cons_succ]
              refine takeNoH 6 36 rfl rfl (by kernel_rfl) (by kernel_rfl) (by kernel_rfl) (fun _ _ _ h => h) (by kernel_rfl) hS0 ?_
              simp only [Act.put, List.setIfInBounds_toArray, List.set_cons_zero, List.set_cons_succ]
              refine takeNoH 7 37 rfl rfl (by kernel_rfl) (by kernel_rfl) (by kernel_rfl) (fun _ _ _ h => h) (by kernel_rfl) hS0 ?_
              simp only [Act.put, List.setIfInBounds_toArray, List.set_cons_zero, List.set_cons_succ]
              refine takeNoH 8 38 rfl rfl (by kernel_rfl) (by kernel_rfl) (by kernel_rfl) (fun _ _ _ h => h) (by kernel_rfl) hS0 ?_
              simp only [Act.put, List.setIfInBounds_toArray, List.set_cons_zero, List.set_cons_succ]
              refine takeNoH 9 39 rfl rfl (by kernel_rfl) (by kernel_rfl) (by kernel_rfl) (fun _ _ _ h => h) (by kernel_rfl) hS0 ?_
              simp only [Act.put, List.setIfInBounds_toArray, List.set_cons_zero, List.set_cons_succ]
              refine takeNoH 10 40 rfl rfl (by kernel_rfl) (by kernel_rfl) (by kernel_rfl) (fun _ _ _ h => h) (by kernel_rfl) hS0 ?_
              simp only [Act.put, List.setIfInBounds_toArray, List.set_cons_zero, List.set_cons_succ]
              refine takeInH 11 41 ?v109 rfl rfl (by kernel_rfl) (by kernel_rfl) (by kernel_rfl) (fun _ _ _ h => h) (by kernel_rfl) hS0 ?hy109 ?_
              case hy109 => (intro W hW; clear hW; go_simp; try rfl)
              simp only [Act.put, List.setIfInBounds_toArray, List.set_cons_zero, List.set_cons_succ]
              refine wpAnyH_done (by kernel_rfl) ?_ _
              replace HO := hide (HO.out.below hS0)
              replace HB := hide (bel_next HB.out hS0)
              replace c0 := bcell HB.out C0.out
              replace c1 := bcell HB.out C1.out
              replace c2 := bcell HB.out C2.out
              replace c3 := bcell HB.out C3.out
              replace n0 := bcell HB.out N0.out
              replace n1 := bcell HB.out N1.out
              replace n2 := bcell HB.out N2.out
              replace n3 := bcell HB.out N3.out
              clear hS0
              generalize wr.drew = x1 at *
              go_upto_region 12 with fail
              refine wp_region_held_drew (S := fun W => Below x1.heap.size x1 W) (by kernel_rfl) ((Below.refl _ x1).drew) (fun hS0 => ?_)
              refine takeInH 0 46 ?v110 rfl rfl (by kernel_rfl) (by kernel_rfl) (by kernel_rfl) (fun _ _ _ h => h) (by kernel_rfl) hS0 ?hy110 ?_
              case hy110 => (intro W hW; clear hW; go_simp; try rfl)
              simp only [Act.put, List.setIfInBounds_toArray, List.set_cons_zero, List.set_cons_succ]
              refine takeInH 1 47 ?v111 rfl rfl (by kernel_rfl) (by kernel_rfl) (by kernel_rfl) (fun _ _ _ h => h) (by kernel_rfl) hS0 ?hy111 ?_
              case hy111 => (intro W hW; clear hW; go_simp; try rfl)
              simp only [Act.put, List.setIfInBounds_toArray, List.set_cons_zero, List.set_cons_succ]
              refine takeInH 2 48 ?v112 rfl rfl (by kernel_rfl) (by kernel_rfl) (by kernel_rfl) (fun _ _ _ h => h) (by kernel_rfl) hS0 ?hy112 ?_
              case hy112 => (intro W hW; clear hW; go_simp; try rfl)
              simp only [Act.put, List.setIfInBounds_toArray, List.set_cons_zero, List.set_cons_succ]
              refine takeInH 3 49 ?v113 rfl rfl (by kernel_rfl) (by kernel_rfl) (by kernel_rfl) (fun _ _ _ h => h) (by kernel_rfl) hS0 ?hy113 ?_
              case hy113 => (intro W hW; clear hW; go_simp; try rfl)
              simp only [Act.put, List.setIfInBounds_toArray, List.set_cons_zero, List.set_cons_succ]
              refine takeInH 4 50 ?v114 rfl rfl (by kernel_rfl) (by kernel_rfl) (by kernel_rfl) (fun _ _ _ h => h) (by kernel_rfl) hS0 ?hy114 ?_
              case hy114 => (intro W hW; have e0 := bcell hW c0; have e1 := bcell hW n0; clear hW; go_simp; try rfl)
              simp only [Act.put, List.setIfInBounds_toArray, List.set_cons_zero, List.set_cons_succ]
              refine takeInH 5 51 ?v115 rfl rfl (by kernel_rfl) (by kernel_rfl) (by kernel_rfl) (fun _ _ _ h => h) (by kernel_rfl) hS0 ?hy115 ?_
              case hy115 => (intro W hW; clear hW; go_simp; try rfl)
              simp only [Act.put, List.setIfInBounds_toArray, List.set_cons_zero, List.set_cons_succ]
              refine takeInH 6 52 ?v116 rfl rfl (by kernel_rfl) (by kernel_rfl) (by kernel_rfl) (fun _ _ _ h => h) (by kernel_rfl) hS0 ?hy116 ?_
              case hy116 => (intro W hW; have e0 := bcell hW c0; have e1 := bcell hW n0; clear hW; go_simp; try rfl)
              simp only [Act.put, List.setIfInBounds_toArray, List.set_cons_zero, List.set_cons_succ]
              refine takeInH 7 53 ?v117 rfl rfl (by kernel_rfl) (by kernel_rfl) (by kernel_rfl) (fun _ _ _ h => h) (by kernel_rfl) hS0 ?hy117 ?_
              case hy117 => (intro W hW; clear hW; go_simp; try rfl)
              simp only [Act.put, List.setIfInBounds_toArray, List.set_cons_zero, List.set_cons_succ]
              refine wpAnyH_done (by kernel_rfl) ?_ _
              replace HO := hide (HO.out.below hS0)
              replace HB := hide (bel_next HB.out hS0)
              replace c0 := bcell HB.out C0.out
              replace c1 := bcell HB.out C1.out
              replace c2 := bcell HB.out C2.out
              replace c3 := bcell HB.out C3.out
              replace n0 := bcell HB.out N0.out
              replace n1 := bcell HB.out N1.out
              replace n2 := bcell HB.out N2.out
              replace n3 := bcell HB.out N3.out
              clear hS0
              generalize x1.drew = x2 at *
              go_wp2
              go_roundw
              case rel => exact ⟨k0 + 1, true, out, by omega, by go_num, rfl, HO, HG2, HOL2, HB⟩
              case measure => simp [intOf]; omega
            · rw [decide_eq_false he] at hq
              have HG2 : Hid (goG kN t (t, ta, rp, wd) (s.drop (k0 + 1)) (out ++ [(k, tb, rb, wb)]) true = Fin) := by
                unfold Hid
                rw [← HG.out, drop_cons HX.out, goG]
                simp only [show ltK (kN (k, tb, rb, wb)) t = false from hl, if_neg (show ¬ kN (k, tb, rb, wb) = t from he)]
                rfl
              have HOL2 : Hid (((out ++ [(k, tb, rb, wb)])).length ≤ 2 * (k0 + 1)) := by have h9 := HOL.out; unfold Hid; first | omega | (simp; omega)
              clear he
              go_upto_region 9 with fail
              refine wp_region_held_drew (S := fun W => Below wr.heap.size wr W) (by kernel_rfl) ((Below.refl _ wr).drew) (fun hS0 => ?_)
              refine takeInH 0 30 ?v118 rfl rfl (by kernel_rfl) (by kernel_rfl) (by kernel_rfl) (fun _ _ _ h => h) (by kernel_rfl) hS0 ?hy118 ?_
              case hy118 => (intro W hW; clear hW; go_simp; try rfl)
              simp only [Act.put, List.setIfInBounds_toArray, List.set_cons_zero, List.set_cons_succ]
              refine takeInH 1 31 ?v119 rfl rfl (by kernel_rfl) (by kernel_rfl) (by kernel_rfl) (fun _ _ _ h => h) (by kernel_rfl) hS0 ?hy119 ?_
              case hy119 => (intro W hW; clear hW; go_simp; try rfl)
              simp only [Act.put, List.setIfInBounds_toArray, List.set_cons_zero, List.set_cons_succ]
              refine takeInH 2 32 ?v120 rfl rfl (by kernel_rfl) (by kernel_rfl) (by kernel_rfl) (fun _ _ _ h => h) (by kernel_rfl) hS0 ?hy120 ?_
              case hy120 => (intro W hW; clear hW; go_simp; try rfl)
              simp only [Act.put, List.setIfInBounds_toArray, List.set_cons_zero, List.set_cons_succ]
              refine takeNoH 3 33 rfl rfl (by kernel_rfl) (by kernel_rfl) (by kernel_rfl) (fun _ _ _ h => h) (by kernel_rfl) hS0 ?_
              simp only [Act.put, List.setIfInBounds_toArray, List.set_cons_zero, List.set_cons_succ]
              refine takeNoH 4 34 rfl rfl (by kernel_rfl) (by kernel_rfl) (by kernel_rfl) (fun _ _ _ h => h) (by kernel_rfl) hS0 ?_
              simp only [Act.put, List.setIfInBounds_toArray, List.set_cons_zero, List.set_cons_succ]
              refine takeNoH 5 35 rfl rfl (by kernel_rfl) (by kernel_rfl) (by kernel_rfl) (fun _ _ _ h => h) (by kernel_rfl) hS0 ?_
              simp only [Act.put, List.setIfInBounds_toArray, List.set_cons_zero, List.set_cons_succ]
              refine takeNoH 6 36 rfl rfl (by kernel_rfl) (by kernel_rfl) (by kernel_rfl) (fun _ _ _ h => h) (by kernel_rfl) hS0 ?_
              simp only [Act.put, List.setIfInBounds_toArray, List.set_cons_zero, List.set_cons_succ]
              refine takeNoH 7 37 rfl rfl (by kernel_rfl) (by kernel_rfl) (by kernel_rfl) (fun _ _ _ h => h) (by kernel_rfl) hS0 ?_
              simp only [Act.put, List.setIfInBounds_toArray, List.set_cons_zero, List.set_cons_succ]
              refine takeNoH 8 38 rfl rfl (by kernel_rfl) (by kernel_rfl) (by kernel_rfl) (fun _ _ _ h => h) (by kernel_rfl) hS0 ?_
              simp only [Act.put, List.setIfInBounds_toArray, List.set_cons_zero, List.set_cons_succ]
              refine takeNoH 9 39 rfl rfl (by kernel_rfl) (by kernel_rfl) (by kernel_rfl) (fun _ _ _ h => h) (by kernel_rfl) hS0 ?_
              simp only [Act.put, List.setIfInBounds_toArray, List.set_cons_zero, List.set_cons_succ]
              refine takeNoH 10 40 rfl rfl (by kernel_rfl) (by kernel_rfl) (by kernel_rfl) (fun _ _ _ h => h) (by kernel_rfl) hS0 ?_
              simp only [Act.put, List.setIfInBounds_toArray, List.set_cons_zero, List.set_cons_succ]
              refine takeInH 11 41 ?v121 rfl rfl (by kernel_rfl) (by kernel_rfl) (by kernel_rfl) (fun _ _ _ h => h) (by kernel_rfl) hS0 ?hy121 ?_
              case hy121 => (intro W hW; clear hW; go_simp; try rfl)
              simp only [Act.put, List.setIfInBounds_toArray, List.set_cons_zero, List.set_cons_succ]
              refine wpAnyH_done (by kernel_rfl) ?_ _
              replace HO := hide (HO.out.below hS0)
              replace HB := hide (bel_next HB.out hS0)
              replace c0 := bcell HB.out C0.out
              replace c1 := bcell HB.out C1.out
              replace c2 := bcell HB.out C2.out
              replace c3 := bcell HB.out C3.out
              replace n0 := bcell HB.out N0.out
              replace n1 := bcell HB.out N1.out
              replace n2 := bcell HB.out N2.out
              replace n3 := bcell HB.out N3.out
              clear hS0
              generalize wr.drew = x1 at *
              go_upto_region 12 with fail
              refine wp_region_held_drew (S := fun W => Below x1.heap.size x1 W) (by kernel_rfl) ((Below.refl _ x1).drew) (fun hS0 => ?_)
              refine takeInH 0 46 ?v122 rfl rfl (by kernel_rfl) (by kernel_rfl) (by kernel_rfl) (fun _ _ _ h => h) (by kernel_rfl) hS0 ?hy122 ?_
              case hy122 => (intro W hW; clear hW; go_simp; try rfl)
              simp only [Act.put, List.setIfInBounds_toArray, List.set_cons_zero, List.set_cons_succ]
              refine takeInH 1 47 ?v123 rfl rfl (by kernel_rfl) (by kernel_rfl) (by kernel_rfl) (fun _ _ _ h => h) (by kernel_rfl) hS0 ?hy123 ?_
              case hy123 => (intro W hW; clear hW; go_simp; try rfl)
              simp only [Act.put, List.setIfInBounds_toArray, List.set_cons_zero, List.set_cons_succ]
              refine takeInH 2 48 ?v124 rfl rfl (by kernel_rfl) (by kernel_rfl) (by kernel_rfl) (fun _ _ _ h => h) (by kernel_rfl) hS0 ?hy124 ?_
              case hy124 => (intro W hW; clear hW; go_simp; try rfl)
              simp only [Act.put, List.setIfInBounds_toArray, List.set_cons_zero, List.set_cons_succ]
              refine takeInH 3 49 ?v125 rfl rfl (by kernel_rfl) (by kernel_rfl) (by kernel_rfl) (fun _ _ _ h => h) (by kernel_rfl) hS0 ?hy125 ?_
              case hy125 => (intro W hW; clear hW; go_simp; try rfl)
              simp only [Act.put, List.setIfInBounds_toArray, List.set_cons_zero, List.set_cons_succ]
              refine takeInH 4 50 ?v126 rfl rfl (by kernel_rfl) (by kernel_rfl) (by kernel_rfl) (fun _ _ _ h => h) (by kernel_rfl) hS0 ?hy126 ?_
              case hy126 => (intro W hW; have e0 := bcell hW c0; have e1 := bcell hW n0; clear hW; go_simp; try rfl)
              simp only [Act.put, List.setIfInBounds_toArray, List.set_cons_zero, List.set_cons_succ]
              refine takeInH 5 51 ?v127 rfl rfl (by kernel_rfl) (by kernel_rfl) (by kernel_rfl) (fun _ _ _ h => h) (by kernel_rfl) hS0 ?hy127 ?_
              case hy127 => (intro W hW; clear hW; go_simp; try rfl)
              simp only [Act.put, List.setIfInBounds_toArray, List.set_cons_zero, List.set_cons_succ]
              refine takeInH 6 52 ?v128 rfl rfl (by kernel_rfl) (by kernel_rfl) (by kernel_rfl) (fun _ _ _ h => h) (by kernel_rfl) hS0 ?hy128 ?_
              case hy128 => (intro W hW; have e0 := bcell hW c0; have e1 := bcell hW n0; clear hW; go_simp; try rfl)
              simp only [Act.put, List.setIfInBounds_toArray, List.set_cons_zero, List.set_cons_succ]
              refine takeInH 7 53 ?v129 rfl rfl (by kernel_rfl) (by kernel_rfl) (by kernel_rfl) (fun _ _ _ h => h) (by kernel_rfl) hS0 ?hy129 ?_
              case hy129 => (intro W hW; clear hW; go_simp; try rfl)
              simp only [Act.put, List.setIfInBounds_toArray, List.set_cons_zero, List.set_cons_succ]
              refine wpAnyH_done (by kernel_rfl) ?_ _
              replace HO := hide (HO.out.below hS0)
              replace HB := hide (bel_next HB.out hS0)
              replace c0 := bcell HB.out C0.out
              replace c1 := bcell HB.out C1.out
              replace c2 := bcell HB.out C2.out
              replace c3 := bcell HB.out C3.out
              replace n0 := bcell HB.out N0.out
              replace n1 := bcell HB.out N1.out
              replace n2 := bcell HB.out N2.out
              replace n3 := bcell HB.out N3.out
              clear hS0
              generalize x1.drew = x2 at *
              go_wp2_with (at_builtin; refine Stop.at ?_)
              unfold Stop
              have BQ2 := hide (bel1 x2 (.cells #[.string k, .int .i64 tb, .int .i64 rb, .string wb] 24))
              refine append_rows rfl _ _ 22 rfl Try.underlying22 Try.infoNot rfl (by decide) (by decide) encN_len encN_one u.heap.size _ out [(k, tb, rb, wb)] rfl (HO.out.below BQ2.out) (some ⟨x2.heap.size, 0, none⟩) 1 1 rfl (fun h => by cases h) (RS.new encN_len x2 _ rfl [(k, tb, rb, wb)] _ (by simp [encN]) _ _ 1 rfl (by decide)) (by have h9 := HOL.out; simp at h9 ⊢; omega) (Nat.le_trans HB.out.size BQ2.out.size) ?_
              intro v2 w2 ho2 hg2 hbel2
              have HO2 := hide ho2
              have HB2 := hide (hbel2 _ (bel_next HB.out BQ2.out))
              clear ho2 hg2 hbel2 BQ2
              replace HO := HO2
              replace HB := HB2
              clear HO2 HB2
              go_wp2
              go_roundw
              case rel => exact ⟨k0 + 1, true, (out ++ [(k, tb, rb, wb)]), by omega, by go_num, rfl, HO, HG2, HOL2, HB⟩
              case measure => simp [intOf]; omega
          · have he : ¬ k = t := ltK_ne hl
            rw [decide_eq_false he] at hq
            have HG2 : Hid (goG kN t (t, ta, rp, wd) (s.drop (k0 + 1)) (out ++ [(k, tb, rb, wb)]) true = Fin) := by
              unfold Hid
              rw [← HG.out, drop_cons HX.out, goG]
              simp only [show ltK (kN (k, tb, rb, wb)) t = true from hl, if_neg (show ¬ kN (k, tb, rb, wb) = t from he)]
              rfl
            have HOL2 : Hid (((out ++ [(k, tb, rb, wb)])).length ≤ 2 * (k0 + 1)) := by have h9 := HOL.out; unfold Hid; first | omega | (simp; omega)
            clear he
            go_upto_region 9 with fail
            refine wp_region_held_drew (S := fun W => Below wr.heap.size wr W) (by kernel_rfl) ((Below.refl _ wr).drew) (fun hS0 => ?_)
            refine takeInH 0 30 ?v130 rfl rfl (by kernel_rfl) (by kernel_rfl) (by kernel_rfl) (fun _ _ _ h => h) (by kernel_rfl) hS0 ?hy130 ?_
            case hy130 => (intro W hW; clear hW; go_simp; try rfl)
            simp only [Act.put, List.setIfInBounds_toArray, List.set_cons_zero, List.set_cons_succ]
            refine takeInH 1 31 ?v131 rfl rfl (by kernel_rfl) (by kernel_rfl) (by kernel_rfl) (fun _ _ _ h => h) (by kernel_rfl) hS0 ?hy131 ?_
            case hy131 => (intro W hW; clear hW; go_simp; try rfl)
            simp only [Act.put, List.setIfInBounds_toArray, List.set_cons_zero, List.set_cons_succ]
            refine takeInH 2 32 ?v132 rfl rfl (by kernel_rfl) (by kernel_rfl) (by kernel_rfl) (fun _ _ _ h => h) (by kernel_rfl) hS0 ?hy132 ?_
            case hy132 => (intro W hW; clear hW; go_simp; try rfl)
            simp only [Act.put, List.setIfInBounds_toArray, List.set_cons_zero, List.set_cons_succ]
            refine takeNoH 3 33 rfl rfl (by kernel_rfl) (by kernel_rfl) (by kernel_rfl) (fun _ _ _ h => h) (by kernel_rfl) hS0 ?_
            simp only [Act.put, List.setIfInBounds_toArray, List.set_cons_zero, List.set_cons_succ]
            refine takeNoH 4 34 rfl rfl (by kernel_rfl) (by kernel_rfl) (by kernel_rfl) (fun _ _ _ h => h) (by kernel_rfl) hS0 ?_
            simp only [Act.put, List.setIfInBounds_toArray, List.set_cons_zero, List.set_cons_succ]
            refine takeNoH 5 35 rfl rfl (by kernel_rfl) (by kernel_rfl) (by kernel_rfl) (fun _ _ _ h => h) (by kernel_rfl) hS0 ?_
            simp only [Act.put, List.setIfInBounds_toArray, List.set_cons_zero, List.set_cons_succ]
            refine takeNoH 6 36 rfl rfl (by kernel_rfl) (by kernel_rfl) (by kernel_rfl) (fun _ _ _ h => h) (by kernel_rfl) hS0 ?_
            simp only [Act.put, List.setIfInBounds_toArray, List.set_cons_zero, List.set_cons_succ]
            refine takeNoH 7 37 rfl rfl (by kernel_rfl) (by kernel_rfl) (by kernel_rfl) (fun _ _ _ h => h) (by kernel_rfl) hS0 ?_
            simp only [Act.put, List.setIfInBounds_toArray, List.set_cons_zero, List.set_cons_succ]
            refine takeNoH 8 38 rfl rfl (by kernel_rfl) (by kernel_rfl) (by kernel_rfl) (fun _ _ _ h => h) (by kernel_rfl) hS0 ?_
            simp only [Act.put, List.setIfInBounds_toArray, List.set_cons_zero, List.set_cons_succ]
            refine takeNoH 9 39 rfl rfl (by kernel_rfl) (by kernel_rfl) (by kernel_rfl) (fun _ _ _ h => h) (by kernel_rfl) hS0 ?_
            simp only [Act.put, List.setIfInBounds_toArray, List.set_cons_zero, List.set_cons_succ]
            refine takeNoH 10 40 rfl rfl (by kernel_rfl) (by kernel_rfl) (by kernel_rfl) (fun _ _ _ h => h) (by kernel_rfl) hS0 ?_
            simp only [Act.put, List.setIfInBounds_toArray, List.set_cons_zero, List.set_cons_succ]
            refine takeInH 11 41 ?v133 rfl rfl (by kernel_rfl) (by kernel_rfl) (by kernel_rfl) (fun _ _ _ h => h) (by kernel_rfl) hS0 ?hy133 ?_
            case hy133 => (intro W hW; clear hW; go_simp; try rfl)
            simp only [Act.put, List.setIfInBounds_toArray, List.set_cons_zero, List.set_cons_succ]
            refine wpAnyH_done (by kernel_rfl) ?_ _
            replace HO := hide (HO.out.below hS0)
            replace HB := hide (bel_next HB.out hS0)
            replace c0 := bcell HB.out C0.out
            replace c1 := bcell HB.out C1.out
            replace c2 := bcell HB.out C2.out
            replace c3 := bcell HB.out C3.out
            replace n0 := bcell HB.out N0.out
            replace n1 := bcell HB.out N1.out
            replace n2 := bcell HB.out N2.out
            replace n3 := bcell HB.out N3.out
            clear hS0
            generalize wr.drew = x1 at *
            go_upto_region 12 with fail
            refine wp_region_held_drew (S := fun W => Below x1.heap.size x1 W) (by kernel_rfl) ((Below.refl _ x1).drew) (fun hS0 => ?_)
            refine takeInH 0 46 ?v134 rfl rfl (by kernel_rfl) (by kernel_rfl) (by kernel_rfl) (fun _ _ _ h => h) (by kernel_rfl) hS0 ?hy134 ?_
            case hy134 => (intro W hW; clear hW; go_simp; try rfl)
            simp only [Act.put, List.setIfInBounds_toArray, List.set_cons_zero, List.set_cons_succ]
            refine takeInH 1 47 ?v135 rfl rfl (by kernel_rfl) (by kernel_rfl) (by kernel_rfl) (fun _ _ _ h => h) (by kernel_rfl) hS0 ?hy135 ?_
            case hy135 => (intro W hW; clear hW; go_simp; try rfl)
            simp only [Act.put, List.setIfInBounds_toArray, List.set_cons_zero, List.set_cons_succ]
            refine takeInH 2 48 ?v136 rfl rfl (by kernel_rfl) (by kernel_rfl) (by kernel_rfl) (fun _ _ _ h => h) (by kernel_rfl) hS0 ?hy136 ?_
            case hy136 => (intro W hW; clear hW; go_simp; try rfl)
            simp only [Act.put, List.setIfInBounds_toArray, List.set_cons_zero, List.set_cons_succ]
            refine takeInH 3 49 ?v137 rfl rfl (by kernel_rfl) (by kernel_rfl) (by kernel_rfl) (fun _ _ _ h => h) (by kernel_rfl) hS0 ?hy137 ?_
            case hy137 => (intro W hW; clear hW; go_simp; try rfl)
            simp only [Act.put, List.setIfInBounds_toArray, List.set_cons_zero, List.set_cons_succ]
            refine takeInH 4 50 ?v138 rfl rfl (by kernel_rfl) (by kernel_rfl) (by kernel_rfl) (fun _ _ _ h => h) (by kernel_rfl) hS0 ?hy138 ?_
            case hy138 => (intro W hW; have e0 := bcell hW c0; have e1 := bcell hW n0; clear hW; go_simp; try rfl)
            simp only [Act.put, List.setIfInBounds_toArray, List.set_cons_zero, List.set_cons_succ]
            refine takeInH 5 51 ?v139 rfl rfl (by kernel_rfl) (by kernel_rfl) (by kernel_rfl) (fun _ _ _ h => h) (by kernel_rfl) hS0 ?hy139 ?_
            case hy139 => (intro W hW; clear hW; go_simp; try rfl)
            simp only [Act.put, List.setIfInBounds_toArray, List.set_cons_zero, List.set_cons_succ]
            refine takeInH 6 52 ?v140 rfl rfl (by kernel_rfl) (by kernel_rfl) (by kernel_rfl) (fun _ _ _ h => h) (by kernel_rfl) hS0 ?hy140 ?_
            case hy140 => (intro W hW; have e0 := bcell hW c0; have e1 := bcell hW n0; clear hW; go_simp; try rfl)
            simp only [Act.put, List.setIfInBounds_toArray, List.set_cons_zero, List.set_cons_succ]
            refine takeInH 7 53 ?v141 rfl rfl (by kernel_rfl) (by kernel_rfl) (by kernel_rfl) (fun _ _ _ h => h) (by kernel_rfl) hS0 ?hy141 ?_
            case hy141 => (intro W hW; clear hW; go_simp; try rfl)
            simp only [Act.put, List.setIfInBounds_toArray, List.set_cons_zero, List.set_cons_succ]
            refine wpAnyH_done (by kernel_rfl) ?_ _
            replace HO := hide (HO.out.below hS0)
            replace HB := hide (bel_next HB.out hS0)
            replace c0 := bcell HB.out C0.out
            replace c1 := bcell HB.out C1.out
            replace c2 := bcell HB.out C2.out
            replace c3 := bcell HB.out C3.out
            replace n0 := bcell HB.out N0.out
            replace n1 := bcell HB.out N1.out
            replace n2 := bcell HB.out N2.out
            replace n3 := bcell HB.out N3.out
            clear hS0
            generalize x1.drew = x2 at *
            go_wp2_with (at_builtin; refine Stop.at ?_)
            unfold Stop
            have BQ2 := hide (bel1 x2 (.cells #[.string k, .int .i64 tb, .int .i64 rb, .string wb] 24))
            refine append_rows rfl _ _ 22 rfl Try.underlying22 Try.infoNot rfl (by decide) (by decide) encN_len encN_one u.heap.size _ out [(k, tb, rb, wb)] rfl (HO.out.below BQ2.out) (some ⟨x2.heap.size, 0, none⟩) 1 1 rfl (fun h => by cases h) (RS.new encN_len x2 _ rfl [(k, tb, rb, wb)] _ (by simp [encN]) _ _ 1 rfl (by decide)) (by have h9 := HOL.out; simp at h9 ⊢; omega) (Nat.le_trans HB.out.size BQ2.out.size) ?_
            intro v2 w2 ho2 hg2 hbel2
            have HO2 := hide ho2
            have HB2 := hide (hbel2 _ (bel_next HB.out BQ2.out))
            clear ho2 hg2 hbel2 BQ2
            replace HO := HO2
            replace HB := HB2
            clear HO2 HB2
            go_wp2
            go_roundw
            case rel => exact ⟨k0 + 1, true, (out ++ [(k, tb, rb, wb)]), by omega, by go_num, rfl, HO, HG2, HOL2, HB⟩
            case measure => simp [intOf]; omega
      · obtain rfl : k0 = n := by omega
        have HE : Hid ((if d then out else out ++ [(t, ta, rp, wd)]) = Fin) := by
          have := HG.out
          rw [← HLEN.out, List.drop_length, goG] at this
          exact this
        clear HG
        cases d
        · have HE2 : Hid (out ++ [(t, ta, rp, wd)] = Fin) := HE.out
          go_wp2_with (at_builtin; refine Stop.at ?_)
          unfold Stop
          have BQ1 := hide (bel1 wr (.cells #[.string t, .int .i64 ta, .int .i64 rp, .string wd] 24))
          refine append_rows rfl _ _ 22 rfl Try.underlying22 Try.infoNot rfl (by decide) (by decide) encN_len encN_one u.heap.size _ out [(t, ta, rp, wd)] rfl (HO.out.below BQ1.out) (some ⟨wr.heap.size, 0, none⟩) 1 1 rfl (fun h => by cases h) (RS.new encN_len wr _ rfl [(t, ta, rp, wd)] _ (by simp [encN]) _ _ 1 rfl (by decide)) (by have h9 := HOL.out; simp at h9 ⊢; omega) (Nat.le_trans HB.out.size BQ1.out.size) ?_
          intro v1 w1 ho1 hg1 hbel1
          have HO1 := hide ho1
          have HB1 := hide (hbel1 _ (bel_next HB.out BQ1.out))
          clear ho1 hg1 hbel1 BQ1
          replace HO := HO1
          replace HB := HB1
          clear HO1 HB1
          rw [HE2.out] at HO
          obtain ⟨p, c, rfl, h1, h2⟩ := HO.out.open encN_len
          have H1 := hide h1
          have H2 := hide h2
          clear h1 h2
          go_wp2
          go_ret
          exact ⟨p, c, rfl, H1.out, H2.out, bel_next HB0.out HB.out⟩
        · have HE2 : Hid (out = Fin) := HE.out
          rw [HE2.out] at HO
          obtain ⟨p, c, rfl, h1, h2⟩ := HO.out.open encN_len
          have H1 := hide h1
          have H2 := hide h2
          clear h1 h2
          go_wp2
          go_ret
          exact ⟨p, c, rfl, H1.out, H2.out, bel_next HB0.out HB.out⟩
  · obtain rfl : kx = t := (getG_some hg).2
    obtain ⟨k2, k3, k4⟩ := neT htz
    rw [hg] at HGT
    unfold vNt at HGT
    rcases hl : laterN (kx, ta, rp, wd) (kx, tx, rx, wx) with _ | _
    · have HLT := hide hl
      have HEQ : Hid (setN s (kx, ta, rp, wd) = s) := setN_not hg hl
      clear hg hS hM htz hl
      rw [HEQ.out]
      go_enter Try.func16, Try.ntmps16
      go_upto_region 2 with (go_at_call 13; refine (HGT.out _ (HV.out.below HB0.out)).mono ?_; rintro e w1 ⟨rfl, hb⟩; replace HB0 := hide (bel_next HB0.out hb); replace n0 := bcell hb n0; replace n1 := bcell hb n1; replace n2 := bcell hb n2; replace n3 := bcell hb n3; clear hb)
      have BQ := hide (bel1 w1 (.cells #[.string kx, .int .i64 tx, .int .i64 rx, .string wx] 24))
      have z0 := cell_new w1 #[.string kx, .int .i64 tx, .int .i64 rx, .string wx] 24 _ rfl 0 _ rfl
      have z1 := cell_new w1 #[.string kx, .int .i64 tx, .int .i64 rx, .string wx] 24 _ rfl 1 _ rfl
      have z2 := cell_new w1 #[.string kx, .int .i64 tx, .int .i64 rx, .string wx] 24 _ rfl 2 _ rfl
      have z3 := cell_new w1 #[.string kx, .int .i64 tx, .int .i64 rx, .string wx] 24 _ rfl 3 _ rfl
      replace HB0 := hide (bel_next HB0.out BQ.out)
      replace n0 := bcell BQ.out n0
      replace n1 := bcell BQ.out n1
      replace n2 := bcell BQ.out n2
      replace n3 := bcell BQ.out n3
      clear BQ
      go_wp2_with (go_at_call 19; refine (Later12_ref kx kx ta tx rp rx wd wx _).mono ?_; rintro e w2 ⟨rfl, hb⟩; rw [show laterN (kx, ta, rp, wd) (kx, tx, rx, wx) = false from HLT.out]; replace HB0 := hide (bel_next HB0.out hb); replace n0 := bcell hb n0; replace n1 := bcell hb n1; replace n2 := bcell hb n2; replace n3 := bcell hb n3; clear hb)
      go_ret
      exact ⟨a, cap, by rw [HLEN.out]; rfl, by rw [HLEN.out]; exact HV.out.below HB0.out, by rw [HLEN.out]; exact HC.out, HB0.out⟩
    · have HLT := hide hl
      have HFIN : Hid (goG kN kx (kx, ta, rp, wd) s [] false = setN s (kx, ta, rp, wd)) := setN_put hS (kx, ta, rp, wd) (.inr ⟨_, hg, hl⟩)
      clear hg hS hM htz hl
      generalize setN s (kx, ta, rp, wd) = Fin at *
      go_enter Try.func16, Try.ntmps16
      go_upto_region 2 with (go_at_call 13; refine (HGT.out _ (HV.out.below HB0.out)).mono ?_; rintro e w1 ⟨rfl, hb⟩; replace HB0 := hide (bel_next HB0.out hb); replace n0 := bcell hb n0; replace n1 := bcell hb n1; replace n2 := bcell hb n2; replace n3 := bcell hb n3; clear hb)
      have BQ := hide (bel1 w1 (.cells #[.string kx, .int .i64 tx, .int .i64 rx, .string wx] 24))
      have z0 := cell_new w1 #[.string kx, .int .i64 tx, .int .i64 rx, .string wx] 24 _ rfl 0 _ rfl
      have z1 := cell_new w1 #[.string kx, .int .i64 tx, .int .i64 rx, .string wx] 24 _ rfl 1 _ rfl
      have z2 := cell_new w1 #[.string kx, .int .i64 tx, .int .i64 rx, .string wx] 24 _ rfl 2 _ rfl
      have z3 := cell_new w1 #[.string kx, .int .i64 tx, .int .i64 rx, .string wx] 24 _ rfl 3 _ rfl
      replace HB0 := hide (bel_next HB0.out BQ.out)
      replace n0 := bcell BQ.out n0
      replace n1 := bcell BQ.out n1
      replace n2 := bcell BQ.out n2
      replace n3 := bcell BQ.out n3
      clear BQ
      go_upto_region 4 with (go_at_call 19; refine (Later12_ref kx kx ta tx rp rx wd wx _).mono ?_; rintro e w2 ⟨rfl, hb⟩; rw [show laterN (kx, ta, rp, wd) (kx, tx, rx, wx) = true from HLT.out]; replace HB0 := hide (bel_next HB0.out hb); replace n0 := bcell hb n0; replace n1 := bcell hb n1; replace n2 := bcell hb n2; replace n3 := bcell hb n3; clear hb)
      clear z0 z1 z2 z3 HGT HLT k2 k3 k4
      obtain ⟨t, ht⟩ : ∃ t, kx = t := ⟨_, rfl⟩
      subst ht
      generalize hwu : w2 = u at *
      clear hwu
      have HVU := hide (HV.out.below HB0.out)
      have N0 := hide n0
      have N1 := hide n1
      have N2 := hide n2
      have N3 := hide n3
      have HO0 : Hid (OwnR encN 4 24 u.heap.size (u.alloc (.cells #[] 24)) (.slice (some ⟨u.heap.size, 0, none⟩) 0 0) []) := OwnR.made u u.heap.size u.heap.size rfl (Nat.le_refl _)
      have HBA := hide (bel1 u (.cells #[] 24))
      have HG0 : Hid (goG kN kx (kx, ta, rp, wd) (s.drop 0) [] false = Fin) := HFIN.out
      clear HFIN
      go_wp2
      go_loopw [6, 7, 8] (fun V vd v wr => ∃ (k : Nat) (d : Bool) (out : List Nt), k ≤ n ∧ v = .int .i64 k ∧ vd = .bool d ∧ Hid (OwnR encN 4 24 u.heap.size wr V out) ∧ Hid (goG kN kx (kx, ta, rp, wd) (s.drop k) out d = Fin) ∧ Hid (out.length ≤ 2 * k) ∧ Hid (Below u.heap.size u wr)) (fun _ _ v _ => n - (intOf v).toNat)
      case atStart => exact ⟨0, false, [], by omega, rfl, rfl, HO0, HG0, (show _ ≤ _ by simp), HBA⟩
      case round =>
        clear HO0 HG0 HBA
        obtain ⟨k0, d, out, hk, rfl, rfl, HO, HG, HOL, HB⟩ := hrel
        replace n0 := bcell HB.out N0.out
        replace n1 := bcell HB.out N1.out
        replace n2 := bcell HB.out N2.out
        replace n3 := bcell HB.out N3.out
        by_cases hlt : k0 < n
        · obtain ⟨b, off, rfl⟩ := HV.out.addr (by omega)
          obtain ⟨k, tb, rb, wb, hx, q0, q1, q2, q3⟩ := HVU.out.at k0 hlt
          have C0 := hide q0
          have C1 := hide q1
          have C2 := hide q2
          have C3 := hide q3
          have HX := hide hx
          have c0 := bcell HB.out q0
          have c1 := bcell HB.out q1
          have c2 := bcell HB.out q2
          have c3 := bcell HB.out q3
          have hk0 : (0 : Int) ≤ (k0 : Int) := by omega
          have hk1 : (k0 : Int) < (n : Int) := by omega
          have hq := eqK k kx
          clear hx q0 q1 q2 q3
          cases d
          · rcases hl : Op.bytesLess k.toList kx.toList with _ | _
            · by_cases he : k = kx
              · rw [decide_eq_true he] at hq
                have HG2 : Hid (goG kN kx (kx, ta, rp, wd) (s.drop (k0 + 1)) (out ++ [(kx, ta, rp, wd)]) true = Fin) := by
                  unfold Hid
                  rw [← HG.out, drop_cons HX.out, goG]
                  simp only [show ltK (kN (k, tb, rb, wb)) kx = false from hl, if_pos (show kN (k, tb, rb, wb) = kx from he)]
                  rfl
                have HOL2 : Hid (((out ++ [(kx, ta, rp, wd)])).length ≤ 2 * (k0 + 1)) := by have h9 := HOL.out; unfold Hid; first | omega | (simp; omega)
                clear he
                go_upto_region 9 with fail
                refine wp_region_held_drew (S := fun W => Below wr.heap.size wr W) (by kernel_rfl) ((Below.refl _ wr).drew) (fun hS0 => ?_)
                refine takeInH 0 30 ?v142 rfl rfl (by kernel_rfl) (by kernel_rfl) (by kernel_rfl) (fun _ _ _ h => h) (by kernel_rfl) hS0 ?hy142 ?_
                case hy142 => (intro W hW; clear hW; go_simp; try rfl)
                simp only [Act.put, List.setIfInBounds_toArray, List.set_cons_zero, List.set_cons_succ]
                refine takeInH 1 31 ?v143 rfl rfl (by kernel_rfl) (by kernel_rfl) (by kernel_rfl) (fun _ _ _ h => h) (by kernel_rfl) hS0 ?hy143 ?_
                case hy143 => (intro W hW; clear hW; go_simp; try rfl)
                simp only [Act.put, List.setIfInBounds_toArray, List.set_cons_zero, List.set_cons_succ]
                refine takeInH 2 32 ?v144 rfl rfl (by kernel_rfl) (by kernel_rfl) (by kernel_rfl) (fun _ _ _ h => h) (by kernel_rfl) hS0 ?hy144 ?_
                case hy144 => (intro W hW; clear hW; go_simp; try rfl)
                simp only [Act.put, List.setIfInBounds_toArray, List.set_cons_zero, List.set_cons_succ]
                refine takeInH 3 33 ?v145 rfl rfl (by kernel_rfl) (by kernel_rfl) (by kernel_rfl) (fun _ _ _ h => h) (by kernel_rfl) hS0 ?hy145 ?_
                case hy145 => (intro W hW; clear hW; go_simp; try rfl)
                simp only [Act.put, List.setIfInBounds_toArray, List.set_cons_zero, List.set_cons_succ]
                refine takeInH 4 34 ?v146 rfl rfl (by kernel_rfl) (by kernel_rfl) (by kernel_rfl) (fun _ _ _ h => h) (by kernel_rfl) hS0 ?hy146 ?_
                case hy146 => (intro W hW; clear hW; go_simp; try rfl)
                simp only [Act.put, List.setIfInBounds_toArray, List.set_cons_zero, List.set_cons_succ]
                refine takeInH 5 35 ?v147 rfl rfl (by kernel_rfl) (by kernel_rfl) (by kernel_rfl) (fun _ _ _ h => h) (by kernel_rfl) hS0 ?hy147 ?_
                case hy147 => (intro W hW; clear hW; go_simp; try rfl)
                simp only [Act.put, List.setIfInBounds_toArray, List.set_cons_zero, List.set_cons_succ]
                refine takeInH 6 36 ?v148 rfl rfl (by kernel_rfl) (by kernel_rfl) (by kernel_rfl) (fun _ _ _ h => h) (by kernel_rfl) hS0 ?hy148 ?_
                case hy148 => (intro W hW; clear hW; go_simp; try rfl)
                simp only [Act.put, List.setIfInBounds_toArray, List.set_cons_zero, List.set_cons_succ]
                refine takeInH 7 37 ?v149 rfl rfl (by kernel_rfl) (by kernel_rfl) (by kernel_rfl) (fun _ _ _ h => h) (by kernel_rfl) hS0 ?hy149 ?_
                case hy149 => (intro W hW; have e0 := bcell hW c0; have e1 := bcell hW n0; clear hW; go_simp; try rfl)
                simp only [Act.put, List.setIfInBounds_toArray, List.set_cons_zero, List.set_cons_succ]
                refine takeInH 8 38 ?v150 rfl rfl (by kernel_rfl) (by kernel_rfl) (by kernel_rfl) (fun _ _ _ h => h) (by kernel_rfl) hS0 ?hy150 ?_
                case hy150 => (intro W hW; clear hW; go_simp; try rfl)
                simp only [Act.put, List.setIfInBounds_toArray, List.set_cons_zero, List.set_cons_succ]
                refine takeInH 9 39 ?v151 rfl rfl (by kernel_rfl) (by kernel_rfl) (by kernel_rfl) (fun _ _ _ h => h) (by kernel_rfl) hS0 ?hy151 ?_
                case hy151 => (intro W hW; have e0 := bcell hW c0; have e1 := bcell hW n0; clear hW; go_simp; try rfl)
                simp only [Act.put, List.setIfInBounds_toArray, List.set_cons_zero, List.set_cons_succ]
                refine takeInH 10 40 ?v152 rfl rfl (by kernel_rfl) (by kernel_rfl) (by kernel_rfl) (fun _ _ _ h => h) (by kernel_rfl) hS0 ?hy152 ?_
                case hy152 => (intro W hW; clear hW; go_simp; try rfl)
                simp only [Act.put, List.setIfInBounds_toArray, List.set_cons_zero, List.set_cons_succ]
                refine takeInH 11 41 ?v153 rfl rfl (by kernel_rfl) (by kernel_rfl) (by kernel_rfl) (fun _ _ _ h => h) (by kernel_rfl) hS0 ?hy153 ?_
                case hy153 => (intro W hW; clear hW; go_simp; try rfl)
                simp only [Act.put, List.setIfInBounds_toArray, List.set_cons_zero, List.set_cons_succ]
                refine wpAnyH_done (by kernel_rfl) ?_ _
                replace HO := hide (HO.out.below hS0)
                replace HB := hide (bel_next HB.out hS0)
                replace c0 := bcell HB.out C0.out
                replace c1 := bcell HB.out C1.out
                replace c2 := bcell HB.out C2.out
                replace c3 := bcell HB.out C3.out
                replace n0 := bcell HB.out N0.out
                replace n1 := bcell HB.out N1.out
                replace n2 := bcell HB.out N2.out
                replace n3 := bcell HB.out N3.out
                clear hS0
                generalize wr.drew = x1 at *
                go_wp2_with (at_builtin; refine Stop.at ?_)
                unfold Stop
                have BQ1 := hide (bel1 x1 (.cells #[.string kx, .int .i64 ta, .int .i64 rp, .string wd] 24))
                refine append_rows rfl _ _ 22 rfl Try.underlying22 Try.infoNot rfl (by decide) (by decide) encN_len encN_one u.heap.size _ out [(kx, ta, rp, wd)] rfl (HO.out.below BQ1.out) (some ⟨x1.heap.size, 0, none⟩) 1 1 rfl (fun h => by cases h) (RS.new encN_len x1 _ rfl [(kx, ta, rp, wd)] _ (by simp [encN]) _ _ 1 rfl (by decide)) (by have h9 := HOL.out; simp at h9 ⊢; omega) (Nat.le_trans HB.out.size BQ1.out.size) ?_
                intro v1 w1 ho1 hg1 hbel1
                have HO1 := hide ho1
                have HB1 := hide (hbel1 _ (bel_next HB.out BQ1.out))
                clear ho1 hg1 hbel1 BQ1
                replace HO := HO1
                replace HB := HB1
                clear HO1 HB1
                replace c0 := bcell HB.out C0.out
                replace c1 := bcell HB.out C1.out
                replace c2 := bcell HB.out C2.out
                replace c3 := bcell HB.out C3.out
                replace n0 := bcell HB.out N0.out
                replace n1 := bcell HB.out N1.out
                replace n2 := bcell HB.out N2.out
                replace n3 := bcell HB.out N3.out
                replace HOL : Hid ((out ++ [(kx, ta, rp, wd)]).length ≤ 2 * k0 + 1) := by have h9 := HOL.out; unfold Hid; simp; omega
                go_upto_region 12 with fail
                refine wp_region_held_drew (S := fun W => Below w1.heap.size w1 W) (by kernel_rfl) ((Below.refl _ w1).drew) (fun hS0 => ?_)
                refine takeInH 0 46 ?v154 rfl rfl (by kernel_rfl) (by kernel_rfl) (by kernel_rfl) (fun _ _ _ h => h) (by kernel_rfl) hS0 ?hy154 ?_
                case hy154 => (intro W hW; clear hW; go_simp; try rfl)
                simp only [Act.put, List.setIfInBounds_toArray, List.set_cons_zero, List.set_cons_succ]
                refine takeInH 1 47 ?v155 rfl rfl (by kernel_rfl) (by kernel_rfl) (by kernel_rfl) (fun _ _ _ h => h) (by kernel_rfl) hS0 ?hy155 ?_
                case hy155 => (intro W hW; clear hW; go_simp; try rfl)
                simp only [Act.put, List.setIfInBounds_toArray, List.set_cons_zero, List.set_cons_succ]
                refine takeInH 2 48 ?v156 rfl rfl (by kernel_rfl) (by kernel_rfl) (by kernel_rfl) (fun _ _ _ h => h) (by kernel_rfl) hS0 ?hy156 ?_
                case hy156 => (intro W hW; clear hW; go_simp; try rfl)
                simp only [Act.put, List.setIfInBounds_toArray, List.set_cons_zero, List.set_cons_succ]
                refine takeInH 3 49 ?v157 rfl rfl (by kernel_rfl) (by kernel_rfl) (by kernel_rfl) (fun _ _ _ h => h) (by kernel_rfl) hS0 ?hy157 ?_
                case hy157 => (intro W hW; clear hW; go_simp; try rfl)
                simp only [Act.put, List.setIfInBounds_toArray, List.set_cons_zero, List.set_cons_succ]
                refine takeInH 4 50 ?v158 rfl rfl (by kernel_rfl) (by kernel_rfl) (by kernel_rfl) (fun _ _ _ h => h) (by kernel_rfl) hS0 ?hy158 ?_
                case hy158 => (intro W hW; have e0 := bcell hW c0; have e1 := bcell hW n0; clear hW; go_simp; try rfl)
                simp only [Act.put, List.setIfInBounds_toArray, List.set_cons_zero, List.set_cons_succ]
                refine takeInH 5 51 ?v159 rfl rfl (by kernel_rfl) (by kernel_rfl) (by kernel_rfl) (fun _ _ _ h => h) (by kernel_rfl) hS0 ?hy159 ?_
                case hy159 => (intro W hW; clear hW; go_simp; try rfl)
                simp only [Act.put, List.setIfInBounds_toArray, List.set_cons_zero, List.set_cons_succ]
                refine takeInH 6 52 ?v160 rfl rfl (by kernel_rfl) (by kernel_rfl) (by kernel_rfl) (fun _ _ _ h => h) (by kernel_rfl) hS0 ?hy160 ?_
                case hy160 => (intro W hW; have e0 := bcell hW c0; have e1 := bcell hW n0; clear hW; go_simp; try rfl)
                simp only [Act.put, List.setIfInBounds_toArray, List.set_cons_zero, List.set_cons_succ]
                refine takeInH 7 53 ?v161 rfl rfl (by kernel_rfl) (by kernel_rfl) (by kernel_rfl) (fun _ _ _ h => h) (by kernel_rfl) hS0 ?hy161 ?_
                case hy161 => (intro W hW; clear hW; go_simp; try rfl)
                simp only [Act.put, List.setIfInBounds_toArray, List.set_cons_zero, List.set_cons_succ]
                refine wpAnyH_done (by kernel_rfl) ?_ _
                replace HO := hide (HO.out.below hS0)
                replace HB := hide (bel_next HB.out hS0)
                replace c0 := bcell HB.out C0.out
                replace c1 := bcell HB.out C1.out
                replace c2 := bcell HB.out C2.out
                replace c3 := bcell HB.out C3.out
                replace n0 := bcell HB.out N0.out
                replace n1 := bcell HB.out N1.out
                replace n2 := bcell HB.out N2.out
                replace n3 := bcell HB.out N3.out
                clear hS0
                generalize w1.drew = x2 at *
                go_wp2
                go_roundw
                case rel => exact ⟨k0 + 1, true, (out ++ [(kx, ta, rp, wd)]), by omega, by go_num, rfl, HO, HG2, HOL2, HB⟩
                case measure => simp [intOf]; omega
              · rw [decide_eq_false he] at hq
                have HG2 : Hid (goG kN kx (kx, ta, rp, wd) (s.drop (k0 + 1)) ((out ++ [(kx, ta, rp, wd)]) ++ [(k, tb, rb, wb)]) true = Fin) := by
                  unfold Hid
                  rw [← HG.out, drop_cons HX.out, goG]
                  simp only [show ltK (kN (k, tb, rb, wb)) kx = false from hl, if_neg (show ¬ kN (k, tb, rb, wb) = kx from he)]
                  rfl
                have HOL2 : Hid ((((out ++ [(kx, ta, rp, wd)]) ++ [(k, tb, rb, wb)])).length ≤ 2 * (k0 + 1)) := by have h9 := HOL.out; unfold Hid; first | omega | (simp; omega)
                clear he
                go_upto_region 9 with fail
                refine wp_region_held_drew (S := fun W => Below wr.heap.size wr W) (by kernel_rfl) ((Below.refl _ wr).drew) (fun hS0 => ?_)
                refine takeInH 0 30 ?v162 rfl rfl (by kernel_rfl) (by kernel_rfl) (by kernel_rfl) (fun _ _ _ h => h) (by kernel_rfl) hS0 ?hy162 ?_
                case hy162 => (intro W hW; clear hW; go_simp; try rfl)
                simp only [Act.put, List.setIfInBounds_toArray, List.set_cons_zero, List.set_cons_succ]
                refine takeInH 1 31 ?v163 rfl rfl (by kernel_rfl) (by kernel_rfl) (by kernel_rfl) (fun _ _ _ h => h) (by kernel_rfl) hS0 ?hy163 ?_
                case hy163 => (intro W hW; clear hW; go_simp; try rfl)
                simp only [Act.put, List.setIfInBounds_toArray, List.set_cons_zero, List.set_cons_succ]
                refine takeInH 2 32 ?v164 rfl rfl (by kernel_rfl) (by kernel_rfl) (by kernel_rfl) (fun _ _ _ h => h) (by kernel_rfl) hS0 ?hy164 ?_
                case hy164 => (intro W hW; clear hW; go_simp; try rfl)
                simp only [Act.put, List.setIfInBounds_toArray, List.set_cons_zero, List.set_cons_succ]
                refine takeInH 3 33 ?v165 rfl rfl (by kernel_rfl) (by kernel_rfl) (by kernel_rfl) (fun _ _ _ h => h) (by kernel_rfl) hS0 ?hy165 ?_
                case hy165 => (intro W hW; clear hW; go_simp; try rfl)
                simp only [Act.put, List.setIfInBounds_toArray, List.set_cons_zero, List.set_cons_succ]
                refine takeInH 4 34 ?v166 rfl rfl (by kernel_rfl) (by kernel_rfl) (by kernel_rfl) (fun _ _ _ h => h) (by kernel_rfl) hS0 ?hy166 ?_
                case hy166 => (intro W hW; clear hW; go_simp; try rfl)
                simp only [Act.put, List.setIfInBounds_toArray, List.set_cons_zero, List.set_cons_succ]
                refine takeInH 5 35 ?v167 rfl rfl (by kernel_rfl) (by kernel_rfl) (by kernel_rfl) (fun _ _ _ h => h) (by kernel_rfl) hS0 ?hy167 ?_
                case hy167 => (intro W hW; clear hW; go_simp; try rfl)
                simp only [Act.put, List.setIfInBounds_toArray, List.set_cons_zero, List.set_cons_succ]
                refine takeInH 6 36 ?v168 rfl rfl (by kernel_rfl) (by kernel_rfl) (by kernel_rfl) (fun _ _ _ h => h) (by kernel_rfl) hS0 ?hy168 ?_
                case hy168 => (intro W hW; clear hW; go_simp; try rfl)
                simp only [Act.put, List.setIfInBounds_toArray, List.set_cons_zero, List.set_cons_succ]
                refine takeInH 7 37 ?v169 rfl rfl (by kernel_rfl) (by kernel_rfl) (by kernel_rfl) (fun _ _ _ h => h) (by kernel_rfl) hS0 ?hy169 ?_
                case hy169 => (intro W hW; have e0 := bcell hW c0; have e1 := bcell hW n0; clear hW; go_simp; try rfl)
                simp only [Act.put, List.setIfInBounds_toArray, List.set_cons_zero, List.set_cons_succ]
                refine takeInH 8 38 ?v170 rfl rfl (by kernel_rfl) (by kernel_rfl) (by kernel_rfl) (fun _ _ _ h => h) (by kernel_rfl) hS0 ?hy170 ?_
                case hy170 => (intro W hW; clear hW; go_simp; try rfl)
                simp only [Act.put, List.setIfInBounds_toArray, List.set_cons_zero, List.set_cons_succ]
                refine takeInH 9 39 ?v171 rfl rfl (by kernel_rfl) (by kernel_rfl) (by kernel_rfl) (fun _ _ _ h => h) (by kernel_rfl) hS0 ?hy171 ?_
                case hy171 => (intro W hW; have e0 := bcell hW c0; have e1 := bcell hW n0; clear hW; go_simp; try rfl)
                simp only [Act.put, List.setIfInBounds_toArray, List.set_cons_zero, List.set_cons_succ]
                refine takeInH 10 40 ?v172 rfl rfl (by kernel_rfl) (by kernel_rfl) (by kernel_rfl) (fun _ _ _ h => h) (by kernel_rfl) hS0 ?hy172 ?_
                case hy172 => (intro W hW; clear hW; go_simp; try rfl)
                simp only [Act.put, List.setIfInBounds_toArray, List.set_cons_zero, List.set_cons_succ]
                refine takeInH 11 41 ?v173 rfl rfl (by kernel_rfl) (by kernel_rfl) (by kernel_rfl) (fun _ _ _ h => h) (by kernel_rfl) hS0 ?hy173 ?_
                case hy173 => (intro W hW; clear hW; go_simp; try rfl)
                simp only [Act.put, List.setIfInBounds_toArray, List.set_cons_zero, List.set_cons_succ]
                refine wpAnyH_done (by kernel_rfl) ?_ _
                replace HO := hide (HO.out.below hS0)
                replace HB := hide (bel_next HB.out hS0)
                replace c0 := bcell HB.out C0.out
                replace c1 := bcell HB.out C1.out
                replace c2 := bcell HB.out C2.out
                replace c3 := bcell HB.out C3.out
                replace n0 := bcell HB.out N0.out
                replace n1 := bcell HB.out N1.out
                replace n2 := bcell HB.out N2.out
                replace n3 := bcell HB.out N3.out
                clear hS0
                generalize wr.drew = x1 at *
                go_wp2_with (at_builtin; refine Stop.at ?_)
                unfold Stop
                have BQ1 := hide (bel1 x1 (.cells #[.string kx, .int .i64 ta, .int .i64 rp, .string wd] 24))
                refine append_rows rfl _ _ 22 rfl Try.underlying22 Try.infoNot rfl (by decide) (by decide) encN_len encN_one u.heap.size _ out [(kx, ta, rp, wd)] rfl (HO.out.below BQ1.out) (some ⟨x1.heap.size, 0, none⟩) 1 1 rfl (fun h => by cases h) (RS.new encN_len x1 _ rfl [(kx, ta, rp, wd)] _ (by simp [encN]) _ _ 1 rfl (by decide)) (by have h9 := HOL.out; simp at h9 ⊢; omega) (Nat.le_trans HB.out.size BQ1.out.size) ?_
                intro v1 w1 ho1 hg1 hbel1
                have HO1 := hide ho1
                have HB1 := hide (hbel1 _ (bel_next HB.out BQ1.out))
                clear ho1 hg1 hbel1 BQ1
                replace HO := HO1
                replace HB := HB1
                clear HO1 HB1
                replace c0 := bcell HB.out C0.out
                replace c1 := bcell HB.out C1.out
                replace c2 := bcell HB.out C2.out
                replace c3 := bcell HB.out C3.out
                replace n0 := bcell HB.out N0.out
                replace n1 := bcell HB.out N1.out
                replace n2 := bcell HB.out N2.out
                replace n3 := bcell HB.out N3.out
                replace HOL : Hid ((out ++ [(kx, ta, rp, wd)]).length ≤ 2 * k0 + 1) := by have h9 := HOL.out; unfold Hid; simp; omega
                go_upto_region 12 with fail
                refine wp_region_held_drew (S := fun W => Below w1.heap.size w1 W) (by kernel_rfl) ((Below.refl _ w1).drew) (fun hS0 => ?_)
                refine takeInH 0 46 ?v174 rfl rfl (by kernel_rfl) (by kernel_rfl) (by kernel_rfl) (fun _ _ _ h => h) (by kernel_rfl) hS0 ?hy174 ?_
                case hy174 => (intro W hW; clear hW; go_simp; try rfl)
                simp only [Act.put, List.setIfInBounds_toArray, List.set_cons_zero, List.set_cons_succ]
                refine takeInH 1 47 ?v175 rfl rfl (by kernel_rfl) (by kernel_rfl) (by kernel_rfl) (fun _ _ _ h => h) (by kernel_rfl) hS0 ?hy175 ?_
                case hy175 => (intro W hW; clear hW; go_simp; try rfl)
                simp only [Act.put, List.setIfInBounds_toArray, List.set_cons_zero, List.set_cons_succ]
                refine takeInH 2 48 ?v176 rfl rfl (by kernel_rfl) (by kernel_rfl) (by kernel_rfl) (fun _ _ _ h => h) (by kernel_rfl) hS0 ?hy176 ?_
                case hy176 => (intro W hW; clear hW; go_simp; try rfl)
                simp only [Act.put, List.setIfInBounds_toArray, List.set_cons_zero, List.set_cons_succ]
                refine takeInH 3 49 ?v177 rfl rfl (by kernel_rfl) (by kernel_rfl) (by kernel_rfl) (fun _ _ _ h => h) (by kernel_rfl) hS0 ?hy177 ?_
                case hy177 => (intro W hW; clear hW; go_simp; try rfl)
                simp only [Act.put, List.setIfInBounds_toArray, List.set_cons_zero, List.set_cons_succ]
                refine takeInH 4 50 ?v178 rfl rfl (by kernel_rfl) (by kernel_rfl) (by kernel_rfl) (fun _ _ _ h => h) (by kernel_rfl) hS0 ?hy178 ?_
                case hy178 => (intro W hW; have e0 := bcell hW c0; have e1 := bcell hW n0; clear hW; go_simp; try rfl)
                simp only [Act.put, List.setIfInBounds_toArray, List.set_cons_zero, List.set_cons_succ]
                refine takeInH 5 51 ?v179 rfl rfl (by kernel_rfl) (by kernel_rfl) (by kernel_rfl) (fun _ _ _ h => h) (by kernel_rfl) hS0 ?hy179 ?_
                case hy179 => (intro W hW; clear hW; go_simp; try rfl)
                simp only [Act.put, List.setIfInBounds_toArray, List.set_cons_zero, List.set_cons_succ]
                refine takeInH 6 52 ?v180 rfl rfl (by kernel_rfl) (by kernel_rfl) (by kernel_rfl) (fun _ _ _ h => h) (by kernel_rfl) hS0 ?hy180 ?_
                case hy180 => (intro W hW; have e0 := bcell hW c0; have e1 := bcell hW n0; clear hW; go_simp; try rfl)
                simp only [Act.put, List.setIfInBounds_toArray, List.set_cons_zero, List.set_cons_succ]
                refine takeInH 7 53 ?v181 rfl rfl (by kernel_rfl) (by kernel_rfl) (by kernel_rfl) (fun _ _ _ h => h) (by kernel_rfl) hS0 ?hy181 ?_
                case hy181 => (intro W hW; clear hW; go_simp; try rfl)
                simp only [Act.put, List.setIfInBounds_toArray, List.set_cons_zero, List.set_cons_succ]
                refine wpAnyH_done (by kernel_rfl) ?_ _
                replace HO := hide (HO.out.below hS0)
                replace HB := hide (bel_next HB.out hS0)
                replace c0 := bcell HB.out C0.out
                replace c1 := bcell HB.out C1.out
                replace c2 := bcell HB.out C2.out
                replace c3 := bcell HB.out C3.out
                replace n0 := bcell HB.out N0.out
                replace n1 := bcell HB.out N1.out
                replace n2 := bcell HB.out N2.out
                replace n3 := bcell HB.out N3.out
                clear hS0
                generalize w1.drew = x2 at *
                go_wp2_with (at_builtin; refine Stop.at ?_)
                unfold Stop
                have BQ2 := hide (bel1 x2 (.cells #[.string k, .int .i64 tb, .int .i64 rb, .string wb] 24))
                refine append_rows rfl _ _ 22 rfl Try.underlying22 Try.infoNot rfl (by decide) (by decide) encN_len encN_one u.heap.size _ (out ++ [(kx, ta, rp, wd)]) [(k, tb, rb, wb)] rfl (HO.out.below BQ2.out) (some ⟨x2.heap.size, 0, none⟩) 1 1 rfl (fun h => by cases h) (RS.new encN_len x2 _ rfl [(k, tb, rb, wb)] _ (by simp [encN]) _ _ 1 rfl (by decide)) (by have h9 := HOL.out; simp at h9 ⊢; omega) (Nat.le_trans HB.out.size BQ2.out.size) ?_
                intro v2 w2 ho2 hg2 hbel2
                have HO2 := hide ho2
                have HB2 := hide (hbel2 _ (bel_next HB.out BQ2.out))
                clear ho2 hg2 hbel2 BQ2
                replace HO := HO2
                replace HB := HB2
                clear HO2 HB2
                go_wp2
                go_roundw
                case rel => exact ⟨k0 + 1, true, ((out ++ [(kx, ta, rp, wd)]) ++ [(k, tb, rb, wb)]), by omega, by go_num, rfl, HO, HG2, HOL2, HB⟩
                case measure => simp [intOf]; omega
            · have he : ¬ k = kx := ltK_ne hl
              rw [decide_eq_false he] at hq
              have HG2 : Hid (goG kN kx (kx, ta, rp, wd) (s.drop (k0 + 1)) (out ++ [(k, tb, rb, wb)]) false = Fin) := by
                unfold Hid
                rw [← HG.out, drop_cons HX.out, goG]
                simp only [show ltK (kN (k, tb, rb, wb)) kx = true from hl, if_neg (show ¬ kN (k, tb, rb, wb) = kx from he)]
                rfl
              have HOL2 : Hid (((out ++ [(k, tb, rb, wb)])).length ≤ 2 * (k0 + 1)) := by have h9 := HOL.out; unfold Hid; first | omega | (simp; omega)
              clear he
              go_upto_region 9 with fail
              refine wp_region_held_drew (S := fun W => Below wr.heap.size wr W) (by kernel_rfl) ((Below.refl _ wr).drew) (fun hS0 => ?_)
              refine takeInH 0 30 ?v182 rfl rfl (by kernel_rfl) (by kernel_rfl) (by kernel_rfl) (fun _ _ _ h => h) (by kernel_rfl) hS0 ?hy182 ?_
              case hy182 => (intro W hW; clear hW; go_simp; try rfl)
              simp only [Act.put, List.setIfInBounds_toArray, List.set_cons_zero, List.set_cons_succ]
              refine takeInH 1 31 ?v183 rfl rfl (by kernel_rfl) (by kernel_rfl) (by kernel_rfl) (fun _ _ _ h => h) (by kernel_rfl) hS0 ?hy183 ?_
              case hy183 => (intro W hW; clear hW; go_simp; try rfl)
              simp only [Act.put, List.setIfInBounds_toArray, List.set_cons_zero, List.set_cons_succ]
              refine takeInH 2 32 ?v184 rfl rfl (by kernel_rfl) (by kernel_rfl) (by kernel_rfl) (fun _ _ _ h => h) (by kernel_rfl) hS0 ?hy184 ?_
              case hy184 => (intro W hW; clear hW; go_simp; try rfl)
              simp only [Act.put, List.setIfInBounds_toArray, List.set_cons_zero, List.set_cons_succ]
              refine takeInH 3 33 ?v185 rfl rfl (by kernel_rfl) (by kernel_rfl) (by kernel_rfl) (fun _ _ _ h => h) (by kernel_rfl) hS0 ?hy185 ?_
              case hy185 => (intro W hW; clear hW; go_simp; try rfl)
              simp only [Act.put, List.setIfInBounds_toArray, List.set_cons_zero, List.set_cons_succ]
              refine takeInH 4 34 ?v186 rfl rfl (by kernel_rfl) (by kernel_rfl) (by kernel_rfl) (fun _ _ _ h => h) (by kernel_rfl) hS0 ?hy186 ?_
              case hy186 => (intro W hW; clear hW; go_simp; try rfl)
              simp only [Act.put, List.setIfInBounds_toArray, List.set_cons_zero, List.set_cons_succ]
              refine takeInH 5 35 ?v187 rfl rfl (by kernel_rfl) (by kernel_rfl) (by kernel_rfl) (fun _ _ _ h => h) (by kernel_rfl) hS0 ?hy187 ?_
              case hy187 => (intro W hW; clear hW; go_simp; try rfl)
              simp only [Act.put, List.setIfInBounds_toArray, List.set_cons_zero, List.set_cons_succ]
              refine takeInH 6 36 ?v188 rfl rfl (by kernel_rfl) (by kernel_rfl) (by kernel_rfl) (fun _ _ _ h => h) (by kernel_rfl) hS0 ?hy188 ?_
              case hy188 => (intro W hW; clear hW; go_simp; try rfl)
              simp only [Act.put, List.setIfInBounds_toArray, List.set_cons_zero, List.set_cons_succ]
              refine takeInH 7 37 ?v189 rfl rfl (by kernel_rfl) (by kernel_rfl) (by kernel_rfl) (fun _ _ _ h => h) (by kernel_rfl) hS0 ?hy189 ?_
              case hy189 => (intro W hW; have e0 := bcell hW c0; have e1 := bcell hW n0; clear hW; go_simp; try rfl)
              simp only [Act.put, List.setIfInBounds_toArray, List.set_cons_zero, List.set_cons_succ]
              refine takeInH 8 38 ?v190 rfl rfl (by kernel_rfl) (by kernel_rfl) (by kernel_rfl) (fun _ _ _ h => h) (by kernel_rfl) hS0 ?hy190 ?_
              case hy190 => (intro W hW; clear hW; go_simp; try rfl)
              simp only [Act.put, List.setIfInBounds_toArray, List.set_cons_zero, List.set_cons_succ]
              refine takeInH 9 39 ?v191 rfl rfl (by kernel_rfl) (by kernel_rfl) (by kernel_rfl) (fun _ _ _ h => h) (by kernel_rfl) hS0 ?hy191 ?_
              case hy191 => (intro W hW; have e0 := bcell hW c0; have e1 := bcell hW n0; clear hW; go_simp; try rfl)
              simp only [Act.put, List.setIfInBounds_toArray, List.set_cons_zero, List.set_cons_succ]
              refine takeInH 10 40 ?v192 rfl rfl (by kernel_rfl) (by kernel_rfl) (by kernel_rfl) (fun _ _ _ h => h) (by kernel_rfl) hS0 ?hy192 ?_
              case hy192 => (intro W hW; clear hW; go_simp; try rfl)
              simp only [Act.put, List.setIfInBounds_toArray, List.set_cons_zero, List.set_cons_succ]
              refine takeInH 11 41 ?v193 rfl rfl (by kernel_rfl) (by kernel_rfl) (by kernel_rfl) (fun _ _ _ h => h) (by kernel_rfl) hS0 ?hy193 ?_
              case hy193 => (intro W hW; clear hW; go_simp; try rfl)
              simp only [Act.put, List.setIfInBounds_toArray, List.set_cons_zero, List.set_cons_succ]
              refine wpAnyH_done (by kernel_rfl) ?_ _
              replace HO := hide (HO.out.below hS0)
              replace HB := hide (bel_next HB.out hS0)
              replace c0 := bcell HB.out C0.out
              replace c1 := bcell HB.out C1.out
              replace c2 := bcell HB.out C2.out
              replace c3 := bcell HB.out C3.out
              replace n0 := bcell HB.out N0.out
              replace n1 := bcell HB.out N1.out
              replace n2 := bcell HB.out N2.out
              replace n3 := bcell HB.out N3.out
              clear hS0
              generalize wr.drew = x1 at *
              go_upto_region 12 with fail
              refine wp_region_held_drew (S := fun W => Below x1.heap.size x1 W) (by kernel_rfl) ((Below.refl _ x1).drew) (fun hS0 => ?_)
              refine takeInH 0 46 ?v194 rfl rfl (by kernel_rfl) (by kernel_rfl) (by kernel_rfl) (fun _ _ _ h => h) (by kernel_rfl) hS0 ?hy194 ?_
              case hy194 => (intro W hW; clear hW; go_simp; try rfl)
              simp only [Act.put, List.setIfInBounds_toArray, List.set_cons_zero, List.set_cons_succ]
              refine takeInH 1 47 ?v195 rfl rfl (by kernel_rfl) (by kernel_rfl) (by kernel_rfl) (fun _ _ _ h => h) (by kernel_rfl) hS0 ?hy195 ?_
              case hy195 => (intro W hW; clear hW; go_simp; try rfl)
              simp only [Act.put, List.setIfInBounds_toArray, List.set_cons_zero, List.set_cons_succ]
              refine takeInH 2 48 ?v196 rfl rfl (by kernel_rfl) (by kernel_rfl) (by kernel_rfl) (fun _ _ _ h => h) (by kernel_rfl) hS0 ?hy196 ?_
              case hy196 => (intro W hW; clear hW; go_simp; try rfl)
              simp only [Act.put, List.setIfInBounds_toArray, List.set_cons_zero, List.set_cons_succ]
              refine takeInH 3 49 ?v197 rfl rfl (by kernel_rfl) (by kernel_rfl) (by kernel_rfl) (fun _ _ _ h => h) (by kernel_rfl) hS0 ?hy197 ?_
              case hy197 => (intro W hW; clear hW; go_simp; try rfl)
              simp only [Act.put, List.setIfInBounds_toArray, List.set_cons_zero, List.set_cons_succ]
              refine takeInH 4 50 ?v198 rfl rfl (by kernel_rfl) (by kernel_rfl) (by kernel_rfl) (fun _ _ _ h => h) (by kernel_rfl) hS0 ?hy198 ?_
              case hy198 => (intro W hW; have e0 := bcell hW c0; have e1 := bcell hW n0; clear hW; go_simp; try rfl)
              simp only [Act.put, List.setIfInBounds_toArray, List.set_cons_zero, List.set_cons_succ]
              refine takeInH 5 51 ?v199 rfl rfl (by kernel_rfl) (by kernel_rfl) (by kernel_rfl) (fun _ _ _ h => h) (by kernel_rfl) hS0 ?hy199 ?_
              case hy199 => (intro W hW; clear hW; go_simp; try rfl)
              simp only [Act.put, List.setIfInBounds_toArray, List.set_cons_zero, List.set_cons_succ]
              refine takeInH 6 52 ?v200 rfl rfl (by kernel_rfl) (by kernel_rfl) (by kernel_rfl) (fun _ _ _ h => h) (by kernel_rfl) hS0 ?hy200 ?_
              case hy200 => (intro W hW; have e0 := bcell hW c0; have e1 := bcell hW n0; clear hW; go_simp; try rfl)
              simp only [Act.put, List.setIfInBounds_toArray, List.set_cons_zero, List.set_cons_succ]
              refine takeInH 7 53 ?v201 rfl rfl (by kernel_rfl) (by kernel_rfl) (by kernel_rfl) (fun _ _ _ h => h) (by kernel_rfl) hS0 ?hy201 ?_
              case hy201 => (intro W hW; clear hW; go_simp; try rfl)
              simp only [Act.put, List.setIfInBounds_toArray, List.set_cons_zero, List.set_cons_succ]
              refine wpAnyH_done (by kernel_rfl) ?_ _
              replace HO := hide (HO.out.below hS0)
              replace HB := hide (bel_next HB.out hS0)
              replace c0 := bcell HB.out C0.out
              replace c1 := bcell HB.out C1.out
              replace c2 := bcell HB.out C2.out
              replace c3 := bcell HB.out C3.out
              replace n0 := bcell HB.out N0.out
              replace n1 := bcell HB.out N1.out
              replace n2 := bcell HB.out N2.out
              replace n3 := bcell HB.out N3.out
              clear hS0
              generalize x1.drew = x2 at *
              go_wp2_with (at_builtin; refine Stop.at ?_)
              unfold Stop
              have BQ2 := hide (bel1 x2 (.cells #[.string k, .int .i64 tb, .int .i64 rb, .string wb] 24))
              refine append_rows rfl _ _ 22 rfl Try.underlying22 Try.infoNot rfl (by decide) (by decide) encN_len encN_one u.heap.size _ out [(k, tb, rb, wb)] rfl (HO.out.below BQ2.out) (some ⟨x2.heap.size, 0, none⟩) 1 1 rfl (fun h => by cases h) (RS.new encN_len x2 _ rfl [(k, tb, rb, wb)] _ (by simp [encN]) _ _ 1 rfl (by decide)) (by have h9 := HOL.out; simp at h9 ⊢; omega) (Nat.le_trans HB.out.size BQ2.out.size) ?_
              intro v2 w2 ho2 hg2 hbel2
              have HO2 := hide ho2
              have HB2 := hide (hbel2 _ (bel_next HB.out BQ2.out))
              clear ho2 hg2 hbel2 BQ2
              replace HO := HO2
              replace HB := HB2
              clear HO2 HB2
              go_wp2
              go_roundw
              case rel => exact ⟨k0 + 1, false, (out ++ [(k, tb, rb, wb)]), by omega, by go_num, rfl, HO, HG2, HOL2, HB⟩
              case measure => simp [intOf]; omega
          · rcases hl : Op.bytesLess k.toList kx.toList with _ | _
            · by_cases he : k = kx
              · rw [decide_eq_true he] at hq
                have HG2 : Hid (goG kN kx (kx, ta, rp, wd) (s.drop (k0 + 1)) out true = Fin) := by
                  unfold Hid
                  rw [← HG.out, drop_cons HX.out, goG]
                  simp only [show ltK (kN (k, tb, rb, wb)) kx = false from hl, if_pos (show kN (k, tb, rb, wb) = kx from he)]
                  rfl
                have HOL2 : Hid ((out).length ≤ 2 * (k0 + 1)) := by have h9 := HOL.out; unfold Hid; first | omega | (simp; omega)
                clear he
                go_upto_region 9 with fail
                refine wp_region_held_drew (S := fun W => Below wr.heap.size wr W) (by kernel_rfl) ((Below.refl _ wr).drew) (fun hS0 => ?_)
                refine takeInH 0 30 ?v202 rfl rfl (by kernel_rfl) (by kernel_rfl) (by kernel_rfl) (fun _ _ _ h => h) (by kernel_rfl) hS0 ?hy202 ?_
                case hy202 => (intro W hW; clear hW; go_simp; try rfl)
                simp only [Act.put, List.setIfInBounds_toArray, List.set_cons_zero, List.set_cons_succ]
                refine takeInH 1 31 ?v203 rfl rfl (by kernel_rfl) (by kernel_rfl) (by kernel_rfl) (fun _ _ _ h => h) (by kernel_rfl) hS0 ?hy203 ?_
                case hy203 => (intro W hW; clear hW; go_simp; try rfl)
                simp only [Act.put, List.setIfInBounds_toArray, List.set_cons_zero, List.set_cons_succ]
                refine takeInH 2 32 ?v204 rfl rfl (by kernel_rfl) (by kernel_rfl) (by kernel_rfl) (fun _ _ _ h => h) (by kernel_rfl) hS0 ?hy204 ?_
                case hy204 => (intro W hW; clear hW; go_simp; try rfl)
                simp only [Act.put, List.setIfInBounds_toArray, List.set_cons_zero, List.set_cons_succ]
                refine takeNoH 3 33 rfl rfl (by kernel_rfl) (by kernel_rfl) (by kernel_rfl) (fun _ _ _ h => h) (by kernel_rfl) hS0 ?_
                simp only [Act.put, List.setIfInBounds_toArray, List.set_cons_zero, List.set_cons_succ]
                refine takeNoH 4 34 rfl rfl (by kernel_rfl) (by kernel_rfl) (by kernel_rfl) (fun _ _ _ h => h) (by kernel_rfl) hS0 ?_
                simp only [Act.put, List.setIfInBounds_toArray, List.set_cons_zero, List.set_cons_succ]
                refine takeNoH 5 35 rfl rfl (by kernel_rfl) (by kernel_rfl) (by kernel_rfl) (fun _ _ _ h => h) (by kernel_rfl) hS0 ?_
                simp only [Act.put, List.setIfInBounds_toArray, List.set_cons_zero, List.set_cons_succ]
                refine takeNoH 6 36 rfl rfl (by kernel_rfl) (by kernel_rfl) (by kernel_rfl) (fun _ _ _ h => h) (by kernel_rfl) hS0 ?_
                simp only [Act.put, List.setIfInBounds_toArray, List.set_cons_zero, List.set_cons_succ]
                refine takeNoH 7 37 rfl rfl (by kernel_rfl) (by kernel_rfl) (by kernel_rfl) (fun _ _ _ h => h) (by kernel_rfl) hS0 ?_
                simp only [Act.put, List.setIfInBounds_toArray, List.set_cons_zero, List.set_cons_succ]
                refine takeNoH 8 38 rfl rfl (by kernel_rfl) (by kernel_rfl) (by kernel_rfl) (fun _ _ _ h => h) (by kernel_rfl) hS0 ?_
                simp only [Act.put, List.setIfInBounds_toArray, List.set_cons_zero, List.set_cons_succ]
                refine takeNoH 9 39 rfl rfl (by kernel_rfl) (by kernel_rfl) (by kernel_rfl) (fun _ _ _ h => h) (by kernel_rfl) hS0 ?_
                simp only [Act.put, List.setIfInBounds_toArray, List.set_cons_zero, List.set_cons_succ]
                refine takeNoH 10 40 rfl rfl (by kernel_rfl) (by kernel_rfl) (by kernel_rfl) (fun _ _ _ h => h) (by kernel_rfl) hS0 ?_
                simp only [Act.put, List.setIfInBounds_toArray, List.set_cons_zero, List.set_cons_succ]
                refine takeInH 11 41 ?v205 rfl rfl (by kernel_rfl) (by kernel_rfl) (by kernel_rfl) (fun _ _ _ h => h) (by kernel_rfl) hS0 ?hy205 ?_
                case hy205 => (intro W hW; clear hW; go_simp; try rfl)
                simp only [Act.put, List.setIfInBounds_toArray, List.set_cons_zero, List.set_cons_succ]
                refine wpAnyH_done (by kernel_rfl) ?_ _
                replace HO := hide (HO.out.below hS0)
                replace HB := hide (bel_next HB.out hS0)
                replace c0 := bcell HB.out C0.out
                replace c1 := bcell HB.out C1.out
                replace c2 := bcell HB.out C2.out
                replace c3 := bcell HB.out C3.out
                replace n0 := bcell HB.out N0.out
                replace n1 := bcell HB.out N1.out
                replace n2 := bcell HB.out N2.out
                replace n3 := bcell HB.out N3.out
                clear hS0
                generalize wr.drew = x1 at *
                go_upto_region 12 with fail
                refine wp_region_held_drew (S := fun W => Below x1.heap.size x1 W) (by kernel_rfl) ((Below.refl _ x1).drew) (fun hS0 => ?_)
                refine takeInH 0 46 ?v206 rfl rfl (by kernel_rfl) (by kernel_rfl) (by kernel_rfl) (fun _ _ _ h => h) (by kernel_rfl) hS0 ?hy206 ?_
                case hy206 => (intro W hW; clear hW; go_simp; try rfl)
                simp only [Act.put, List.setIfInBounds_toArray, List.set_cons_zero, List.set_cons_succ]
                refine takeInH 1 47 ?v207 rfl rfl (by kernel_rfl) (by kernel_rfl) (by kernel_rfl) (fun _ _ _ h => h) (by kernel_rfl) hS0 ?hy207 ?_
                case hy207 => (intro W hW; clear hW; go_simp; try rfl)
                simp only [Act.put, List.setIfInBounds_toArray, List.set_cons_zero, List.set_cons_succ]
                refine takeInH 2 48 ?v208 rfl rfl (by kernel_rfl) (by kernel_rfl) (by kernel_rfl) (fun _ _ _ h => h) (by kernel_rfl) hS0 ?hy208 ?_
                case hy208 => (intro W hW; clear hW; go_simp; try rfl)
                simp only [Act.put, List.setIfInBounds_toArray, List.set_cons_zero, List.set_cons_succ]
                refine takeInH 3 49 ?v209 rfl rfl (by kernel_rfl) (by kernel_rfl) (by kernel_rfl) (fun _ _ _ h => h) (by kernel_rfl) hS0 ?hy209 ?_
                case hy209 => (intro W hW; clear hW; go_simp; try rfl)
                simp only [Act.put, List.setIfInBounds_toArray, List.set_cons_zero, List.set_cons_succ]
                refine takeInH 4 50 ?v210 rfl rfl (by kernel_rfl) (by kernel_rfl) (by kernel_rfl) (fun _ _ _ h => h) (by kernel_rfl) hS0 ?hy210 ?_
                case hy210 => (intro W hW; have e0 := bcell hW c0; have e1 := bcell hW n0; clear hW; go_simp; try rfl)
                simp only [Act.put, List.setIfInBounds_toArray, List.set_cons_zero, List.set_cons_succ]
                refine takeInH 5 51 ?v211 rfl rfl (by kernel_rfl) (by kernel_rfl) (by kernel_rfl) (fun _ _ _ h => h) (by kernel_rfl) hS0 ?hy211 ?_
                case hy211 => (intro W hW; clear hW; go_simp; try rfl)
                simp only [Act.put, List.setIfInBounds_toArray, List.set_cons_zero, List.set_cons_succ]
                refine takeInH 6 52 ?v212 rfl rfl (by kernel_rfl) (by kernel_rfl) (by kernel_rfl) (fun _ _ _ h => h) (by kernel_rfl) hS0 ?hy212 ?_
                case hy212 => (intro W hW; have e0 := bcell hW c0; have e1 := bcell hW n0; clear hW; go_simp; try rfl)
                simp only [Act.put, List.setIfInBounds_toArray, List.set_cons_zero, List.set_cons_succ]
                refine takeInH 7 53 ?v213 rfl rfl (by kernel_rfl) (by kernel_rfl) (by kernel_rfl) (fun _ _ _ h => h) (by kernel_rfl) hS0 ?hy213 ?_
                case hy213 => (intro W hW; clear hW; go_simp; try rfl)
                simp only [Act.put, List.setIfInBounds_toArray, List.set_cons_zero, List.set_cons_succ]
                refine wpAnyH_done (by kernel_rfl) ?_ _
                replace HO := hide (HO.out.below hS0)
                replace HB := hide (bel_next HB.out hS0)
                replace c0 := bcell HB.out C0.out
                replace c1 := bcell HB.out C1.out
                replace c2 := bcell HB.out C2.out
                replace c3 := bcell HB.out C3.out
                replace n0 := bcell HB.out N0.out
                replace n1 := bcell HB.out N1.out
                replace n2 := bcell HB.out N2.out
                replace n3 := bcell HB.out N3.out
                clear hS0
                generalize x1.drew = x2 at *
                go_wp2
                go_roundw
                case rel => exact ⟨k0 + 1, true, out, by omega, by go_num, rfl, HO, HG2, HOL2, HB⟩
                case measure => simp [intOf]; omega
              · rw [decide_eq_false he] at hq
                have HG2 : Hid (goG kN kx (kx, ta, rp, wd) (s.drop (k0 + 1)) (out ++ [(k, tb, rb, wb)]) true = Fin) := by
                  unfold Hid
                  rw [← HG.out, drop_cons HX.out, goG]
                  simp only [show ltK (kN (k, tb, rb, wb)) kx = false from hl, if_neg (show ¬ kN (k, tb, rb, wb) = kx from he)]
                  rfl
                have HOL2 : Hid (((out ++ [(k, tb, rb, wb)])).length ≤ 2 * (k0 + 1)) := by have h9 := HOL.out; unfold Hid; first | omega | (simp; omega)
                clear he
                go_upto_region 9 with fail
                refine wp_region_held_drew (S := fun W => Below wr.heap.size wr W) (by kernel_rfl) ((Below.refl _ wr).drew) (fun hS0 => ?_)
                refine takeInH 0 30 ?v214 rfl rfl (by kernel_rfl) (by kernel_rfl) (by kernel_rfl) (fun _ _ _ h => h) (by kernel_rfl) hS0 ?hy214 ?_
                case hy214 => (intro W hW; clear hW; go_simp; try rfl)
                simp only [Act.put, List.setIfInBounds_toArray, List.set_cons_zero, List.set_cons_succ]
                refine takeInH 1 31 ?v215 rfl rfl (by kernel_rfl) (by kernel_rfl) (by kernel_rfl) (fun _ _ _ h => h) (by kernel_rfl) hS0 ?hy215 ?_
                case hy215 => (intro W hW; clear hW; go_simp; try rfl)
                simp only [Act.put, List.setIfInBounds_toArray, List.set_cons_zero, List.set_cons_succ]
                refine takeInH 2 32 ?v216 rfl rfl (by kernel_rfl) (by kernel_rfl) (by kernel_rfl) (fun _ _ _ h => h) (by kernel_rfl) hS0 ?hy216 ?_
                case hy216 => (intro W hW; clear hW; go_simp; try rfl)
                simp only [Act.put, List.setIfInBounds_toArray, List.set_cons_zero, List.set_cons_succ]
                refine takeNoH 3 33 rfl rfl (by kernel_rfl) (by kernel_rfl) (by kernel_rfl) (fun _ _ _ h => h) (by kernel_rfl) hS0 ?_
                simp only [Act.put, List.setIfInBounds_toArray, List.set_cons_zero, List.set_cons_succ]
                refine takeNoH 4 34 rfl rfl (by kernel_rfl) (by kernel_rfl) (by kernel_rfl) (fun _ _ _ h => h) (by kernel_rfl) hS0 ?_
                simp only [Act.put, List.setIfInBounds_toArray, List.set_cons_zero, List.set_cons_succ]
                refine takeNoH 5 35 rfl rfl (by kernel_rfl) (by kernel_rfl) (by kernel_rfl) (fun _ _ _ h => h) (by kernel_rfl) hS0 ?_
                simp only [Act.put, List.setIfInBounds_toArray, List.set_cons_zero, List.set_cons_succ]
                refine takeNoH 6 36 rfl rfl (by kernel_rfl) (by kernel_rfl) (by kernel_rfl) (fun _ _ _ h => h) (by kernel_rfl) hS0 ?_
                simp only [Act.put, List.setIfInBounds_toArray, List.set_cons_zero, List.set_cons_succ]
                refine takeNoH 7 37 rfl rfl (by kernel_rfl) (by kernel_rfl) (by kernel_rfl) (fun _ _ _ h => h) (by kernel_rfl) hS0 ?_
                simp only [Act.put, List.setIfInBounds_toArray, List.set_cons_zero, List.set_cons_succ]
                refine takeNoH 8 38 rfl rfl (by kernel_rfl) (by kernel_rfl) (by kernel_rfl) (fun _ _ _ h => h) (by kernel_rfl) hS0 ?_
                simp only [Act.put, List.setIfInBounds_toArray, List.set_cons_zero, List.set_cons_succ]
                refine takeNoH 9 39 rfl rfl (by kernel_rfl) (by kernel_rfl) (by kernel_rfl) (fun _ _ _ h => h) (by kernel_rfl) hS0 ?_
                simp only [Act.put, List.setIfInBounds_toArray, List.set_cons_zero, List.set_cons_succ]
                refine takeNoH 10 40 rfl rfl (by kernel_rfl) (by kernel_rfl) (by kernel_rfl) (fun _ _ _ h => h) (by kernel_rfl) hS0 ?_
                simp only [Act.put, List.setIfInBounds_toArray, List.set_cons_zero, List.set_cons_succ]
                refine takeInH 11 41 ?v217 rfl rfl (by kernel_rfl) (by kernel_rfl) (by kernel_rfl) (fun _ _ _ h => h) (by kernel_rfl) hS0 ?hy217 ?_
                case hy217 => (intro W hW; clear hW; go_simp; try rfl)
                simp only [Act.put, List.setIfInBounds_toArray, List.set_cons_zero, List.set_cons_succ]
                refine wpAnyH_done (by kernel_rfl) ?_ _
                replace HO := hide (HO.out.below hS0)
                replace HB := hide (bel_next HB.out hS0)
                replace c0 := bcell HB.out C0.out
                replace c1 := bcell HB.out C1.out
                replace c2 := bcell HB.out C2.out
                replace c3 := bcell HB.out C3.out
                replace n0 := bcell HB.out N0.out
                replace n1 := bcell HB.out N1.out
                replace n2 := bcell HB.out N2.out
                replace n3 := bcell HB.out N3.out
                clear hS0
                generalize wr.drew = x1 at *
                go_upto_region 12 with fail
                refine wp_region_held_drew (S := fun W => Below x1.heap.size x1 W) (by kernel_rfl) ((Below.refl _ x1).drew) (fun hS0 => ?_)
                refine takeInH 0 46 ?v218 rfl rfl (by kernel_rfl) (by kernel_rfl) (by kernel_rfl) (fun _ _ _ h => h) (by kernel_rfl) hS0 ?hy218 ?_
                case hy218 => (intro W hW; clear hW; go_simp; try rfl)
                simp only [Act.put, List.setIfInBounds_toArray, List.set_cons_zero, List.set_cons_succ]
                refine takeInH 1 47 ?v219 rfl rfl (by kernel_rfl) (by kernel_rfl) (by kernel_rfl) (fun _ _ _ h => h) (by kernel_rfl) hS0 ?hy219 ?_
                case hy219 => (intro W hW; clear hW; go_simp; try rfl)
                simp only [Act.put, List.setIfInBounds_toArray, List.set_cons_zero, List.set_cons_succ]
                refine takeInH 2 48 ?v220 rfl rfl (by kernel_rfl) (by kernel_rfl) (by kernel_rfl) (fun _ _ _ h => h) (by kernel_rfl) hS0 ?hy220 ?_
                case hy220 => (intro W hW; clear hW; go_simp; try rfl)
                simp only [Act.put, List.setIfInBounds_toArray, List.set_cons_zero, List.set_cons_succ]
                refine takeInH 3 49 ?v221 rfl rfl (by kernel_rfl) (by kernel_rfl) (by kernel_rfl) (fun _ _ _ h => h) (by kernel_rfl) hS0 ?hy221 ?_
                case hy221 => (intro W hW; clear hW; go_simp; try rfl)
                simp only [Act.put, List.setIfInBounds_toArray, List.set_cons_zero, List.set_cons_succ]
                refine takeInH 4 50 ?v222 rfl rfl (by kernel_rfl) (by kernel_rfl) (by kernel_rfl) (fun _ _ _ h => h) (by kernel_rfl) hS0 ?hy222 ?_
                case hy222 => (intro W hW; have e0 := bcell hW c0; have e1 := bcell hW n0; clear hW; go_simp; try rfl)
                simp only [Act.put, List.setIfInBounds_toArray, List.set_cons_zero, List.set_cons_succ]
                refine takeInH 5 51 ?v223 rfl rfl (by kernel_rfl) (by kernel_rfl) (by kernel_rfl) (fun _ _ _ h => h) (by kernel_rfl) hS0 ?hy223 ?_
                case hy223 => (intro W hW; clear hW; go_simp; try rfl)
                simp only [Act.put, List.setIfInBounds_toArray, List.set_cons_zero, List.set_cons_succ]
                refine takeInH 6 52 ?v224 rfl rfl (by kernel_rfl) (by kernel_rfl) (by kernel_rfl) (fun _ _ _ h => h) (by kernel_rfl) hS0 ?hy224 ?_
                case hy224 => (intro W hW; have e0 := bcell hW c0; have e1 := bcell hW n0; clear hW; go_simp; try rfl)
                simp only [Act.put, List.setIfInBounds_toArray, List.set_cons_zero, List.set_cons_succ]
                refine takeInH 7 53 ?v225 rfl rfl (by kernel_rfl) (by kernel_rfl) (by kernel_rfl) (fun _ _ _ h => h) (by kernel_rfl) hS0 ?hy225 ?_
                case hy225 => (intro W hW; clear hW; go_simp; try rfl)
                simp only [Act.put, List.setIfInBounds_toArray, List.set_cons_zero, List.set_cons_succ]
                refine wpAnyH_done (by kernel_rfl) ?_ _
                replace HO := hide (HO.out.below hS0)
                replace HB := hide (bel_next HB.out hS0)
                replace c0 := bcell HB.out C0.out
                replace c1 := bcell HB.out C1.out
                replace c2 := bcell HB.out C2.out
                replace c3 := bcell HB.out C3.out
                replace n0 := bcell HB.out N0.out
                replace n1 := bcell HB.out N1.out
                replace n2 := bcell HB.out N2.out
                replace n3 := bcell HB.out N3.out
                clear hS0
                generalize x1.drew = x2 at *
                go_wp2_with (at_builtin; refine Stop.at ?_)
                unfold Stop
                have BQ2 := hide (bel1 x2 (.cells #[.string k, .int .i64 tb, .int .i64 rb, .string wb] 24))
                refine append_rows rfl _ _ 22 rfl Try.underlying22 Try.infoNot rfl (by decide) (by decide) encN_len encN_one u.heap.size _ out [(k, tb, rb, wb)] rfl (HO.out.below BQ2.out) (some ⟨x2.heap.size, 0, none⟩) 1 1 rfl (fun h => by cases h) (RS.new encN_len x2 _ rfl [(k, tb, rb, wb)] _ (by simp [encN]) _ _ 1 rfl (by decide)) (by have h9 := HOL.out; simp at h9 ⊢; omega) (Nat.le_trans HB.out.size BQ2.out.size) ?_
                intro v2 w2 ho2 hg2 hbel2
                have HO2 := hide ho2
                have HB2 := hide (hbel2 _ (bel_next HB.out BQ2.out))
                clear ho2 hg2 hbel2 BQ2
                replace HO := HO2
                replace HB := HB2
                clear HO2 HB2
                go_wp2
                go_roundw
                case rel => exact ⟨k0 + 1, true, (out ++ [(k, tb, rb, wb)]), by omega, by go_num, rfl, HO, HG2, HOL2, HB⟩
                case measure => simp [intOf]; omega
            · have he : ¬ k = kx := ltK_ne hl
              rw [decide_eq_false he] at hq
              have HG2 : Hid (goG kN kx (kx, ta, rp, wd) (s.drop (k0 + 1)) (out ++ [(k, tb, rb, wb)]) true = Fin) := by
                unfold Hid
                rw [← HG.out, drop_cons HX.out, goG]
                simp only [show ltK (kN (k, tb, rb, wb)) kx = true from hl, if_neg (show ¬ kN (k, tb, rb, wb) = kx from he)]
                rfl
              have HOL2 : Hid (((out ++ [(k, tb, rb, wb)])).length ≤ 2 * (k0 + 1)) := by have h9 := HOL.out; unfold Hid; first | omega | (simp; omega)
              clear he
              go_upto_region 9 with fail
              refine wp_region_held_drew (S := fun W => Below wr.heap.size wr W) (by kernel_rfl) ((Below.refl _ wr).drew) (fun hS0 => ?_)
              refine takeInH 0 30 ?v226 rfl rfl (by kernel_rfl) (by kernel_rfl) (by kernel_rfl) (fun _ _ _ h => h) (by kernel_rfl) hS0 ?hy226 ?_
              case hy226 => (intro W hW; clear hW; go_simp; try rfl)
              simp only [Act.put, List.setIfInBounds_toArray, List.set_cons_zero, List.set_cons_succ]
              refine takeInH 1 31 ?v227 rfl rfl (by kernel_rfl) (by kernel_rfl) (by kernel_rfl) (fun _ _ _ h => h) (by kernel_rfl) hS0 ?hy227 ?_
              case hy227 => (intro W hW; clear hW; go_simp; try rfl)
              simp only [Act.put, List.setIfInBounds_toArray, List.set_cons_zero, List.set_cons_succ]
              refine takeInH 2 32 ?v228 rfl rfl (by kernel_rfl) (by kernel_rfl) (by kernel_rfl) (fun _ _ _ h => h) (by kernel_rfl) hS0 ?hy228 ?_
              case hy228 => (intro W hW; clear hW; go_simp; try rfl)
              simp only [Act.put, List.setIfInBounds_toArray, List.set_cons_zero, List.set_cons_succ]
              refine takeNoH 3 33 rfl rfl (by kernel_rfl) (by kernel_rfl) (by kernel_rfl) (fun _ _ _ h => h) (by kernel_rfl) hS0 ?_
              simp only [Act.put, List.setIfInBounds_toArray, List.set_cons_zero, List.set_cons_succ]
              refine takeNoH 4 34 rfl rfl (by kernel_rfl) (by kernel_rfl) (by kernel_rfl) (fun _ _ _ h => h) (by kernel_rfl) hS0 ?_
              simp only [Act.put, List.setIfInBounds_toArray, List.set_cons_zero, List.set_cons_succ]
              refine takeNoH 5 35 rfl rfl (by kernel_rfl) (by kernel_rfl) (by kernel_rfl) (fun _ _ _ h => h) (by kernel_rfl) hS0 ?_
              simp only [Act.put, List.setIfInBounds_toArray, List.set_cons_zero, List.set_cons_succ]
              refine takeNoH 6 36 rfl rfl (by kernel_rfl) (by kernel_rfl) (by kernel_rfl) (fun _ _ _ h => h) (by kernel_rfl) hS0 ?_
              simp only [Act.put, List.setIfInBounds_toArray, List.set_cons_zero, List.set_cons_succ]
              refine takeNoH 7 37 rfl rfl (by kernel_rfl) (by kernel_rfl) (by kernel_rfl) (fun _ _ _ h => h) (by kernel_rfl) hS0 ?_
              simp only [Act.put, List.setIfInBounds_toArray, List.set_cons_zero, List.set_cons_succ]
              refine takeNoH 8 38 rfl rfl (by kernel_rfl) (by kernel_rfl) (by kernel_rfl) (fun _ _ _ h => h) (by kernel_rfl) hS0 ?_
              simp only [Act.put, List.setIfInBounds_toArray, List.set_cons_zero, List.set_cons_succ]
              refine takeNoH 9 39 rfl rfl (by kernel_rfl) (by kernel_rfl) (by kernel_rfl) (fun _ _ _ h => h) (by kernel_rfl) hS0 ?_
              simp only [Act.put, List.setIfInBounds_toArray, List.set_cons_zero, List.set_cons_succ]
              refine takeNoH 10 40 rfl rfl (by kernel_rfl) (by kernel_rfl) (by kernel_rfl) (fun _ _ _ h => h) (by kernel_rfl) hS0 ?_
              simp only [Act.put, List.setIfInBounds_toArray, List.set_cons_zero, List.set_cons_succ]
              refine takeInH 11 41 ?v229 rfl rfl (by kernel_rfl) (by kernel_rfl) (by kernel_rfl) (fun _ _ _ h => h) (by kernel_rfl) hS0 ?hy229 ?_
              case hy229 => (intro W hW; clear hW; go_simp; try rfl)
              simp only [Act.put, List.setIfInBounds_toArray, List.set_cons_zero, List.set_cons_succ]
              refine wpAnyH_done (by kernel_rfl) ?_ _
              replace HO := hide (HO.out.below hS0)
              replace HB := hide (bel_next HB.out hS0)
              replace c0 := bcell HB.out C0.out
              replace c1 := bcell HB.out C1.out
              replace c2 := bcell HB.out C2.out
              replace c3 := bcell HB.out C3.out
              replace n0 := bcell HB.out N0.out
              replace n1 := bcell HB.out N1.out
              replace n2 := bcell HB.out N2.out
              replace n3 := bcell HB.out N3.out
              clear hS0
              generalize wr.drew = x1 at *
              go_upto_region 12 with fail
              refine wp_region_held_drew (S := fun W => Below x1.heap.size x1 W) (by kernel_rfl) ((Below.refl _ x1).drew) (fun hS0 => ?_)
              refine takeInH 0 46 ?v230 rfl rfl (by kernel_rfl) (by kernel_rfl) (by kernel_rfl) (fun _ _ _ h => h) (by kernel_rfl) hS0 ?hy230 ?_
              case hy230 => (intro W hW; clear hW; go_simp; try rfl)
              simp only [Act.put, List.setIfInBounds_toArray, List.set_cons_zero, List.set_cons_succ]
              refine takeInH 1 47 ?v231 rfl rfl (by kernel_rfl) (by kernel_rfl) (by kernel_rfl) (fun _ _ _ h => h) (by kernel_rfl) hS0 ?hy231 ?_
              case hy231 => (intro W hW; clear hW; go_simp; try rfl)
              simp only [Act.put, List.setIfInBounds_toArray, List.set_cons_zero, List.set_cons_succ]
              refine takeInH 2 48 ?v232 rfl rfl (by kernel_rfl) (by kernel_rfl) (by kernel_rfl) (fun _ _ _ h => h) (by kernel_rfl) hS0 ?hy232 ?_
              case hy232 => (intro W hW; clear hW; go_simp; try rfl)
              simp only [Act.put, List.setIfInBounds_toArray, List.set_cons_zero, List.set_cons_succ]
              refine takeInH 3 49 ?v233 rfl rfl (by kernel_rfl) (by kernel_rfl) (by kernel_rfl) (fun _ _ _ h => h) (by kernel_rfl) hS0 ?hy233 ?_
              case hy233 => (intro W hW; clear hW; go_simp; try rfl)
              simp only [Act.put, List.setIfInBounds_toArray, List.set_cons_zero, List.set_cons_succ]
              refine takeInH 4 50 ?v234 rfl rfl (by kernel_rfl) (by kernel_rfl) (by kernel_rfl) (fun _ _ _ h => h) (by kernel_rfl) hS0 ?hy234 ?_
              case hy234 => (intro W hW; have e0 := bcell hW c0; have e1 := bcell hW n0; clear hW; go_simp; try rfl)
              simp only [Act.put, List.setIfInBounds_toArray, List.set_cons_zero, List.set_cons_succ]
              refine takeInH 5 51 ?v235 rfl rfl (by kernel_rfl) (by kernel_rfl) (by kernel_rfl) (fun _ _ _ h => h) (by kernel_rfl) hS0 ?hy235 ?_
              case hy235 => (intro W hW; clear hW; go_simp; try rfl)
              simp only [Act.put, List.setIfInBounds_toArray, List.set_cons_zero, List.set_cons_succ]
              refine takeInH 6 52 ?v236 rfl rfl (by kernel_rfl) (by kernel_rfl) (by kernel_rfl) (fun _ _ _ h => h) (by kernel_rfl) hS0 ?hy236 ?_
              case hy236 => (intro W hW; have e0 := bcell hW c0; have e1 := bcell hW n0; clear hW; go_simp; try rfl)
              simp only [Act.put, List.setIfInBounds_toArray, List.set_cons_zero, List.set_cons_succ]
              refine takeInH 7 53 ?v237 rfl rfl (by kernel_rfl) (by kernel_rfl) (by kernel_rfl) (fun _ _ _ h => h) (by kernel_rfl) hS0 ?hy237 ?_
              case hy237 => (intro W hW; clear hW; go_simp; try rfl)
              simp only [Act.put, List.setIfInBounds_toArray, List.set_cons_zero, List.set_cons_succ]
              refine wpAnyH_done (by kernel_rfl) ?_ _
              replace HO := hide (HO.out.below hS0)
              replace HB := hide (bel_next HB.out hS0)
              replace c0 := bcell HB.out C0.out
              replace c1 := bcell HB.out C1.out
              replace c2 := bcell HB.out C2.out
              replace c3 := bcell HB.out C3.out
              replace n0 := bcell HB.out N0.out
              replace n1 := bcell HB.out N1.out
              replace n2 := bcell HB.out N2.out
              replace n3 := bcell HB.out N3.out
              clear hS0
              generalize x1.drew = x2 at *
              go_wp2_with (at_builtin; refine Stop.at ?_)
              unfold Stop
              have BQ2 := hide (bel1 x2 (.cells #[.string k, .int .i64 tb, .int .i64 rb, .string wb] 24))
              refine append_rows rfl _ _ 22 rfl Try.underlying22 Try.infoNot rfl (by decide) (by decide) encN_len encN_one u.heap.size _ out [(k, tb, rb, wb)] rfl (HO.out.below BQ2.out) (some ⟨x2.heap.size, 0, none⟩) 1 1 rfl (fun h => by cases h) (RS.new encN_len x2 _ rfl [(k, tb, rb, wb)] _ (by simp [encN]) _ _ 1 rfl (by decide)) (by have h9 := HOL.out; simp at h9 ⊢; omega) (Nat.le_trans HB.out.size BQ2.out.size) ?_
              intro v2 w2 ho2 hg2 hbel2
              have HO2 := hide ho2
              have HB2 := hide (hbel2 _ (bel_next HB.out BQ2.out))
              clear ho2 hg2 hbel2 BQ2
              replace HO := HO2
              replace HB := HB2
              clear HO2 HB2
              go_wp2
              go_roundw
              case rel => exact ⟨k0 + 1, true, (out ++ [(k, tb, rb, wb)]), by omega, by go_num, rfl, HO, HG2, HOL2, HB⟩
              case measure => simp [intOf]; omega
        · obtain rfl : k0 = n := by omega
          have HE : Hid ((if d then out else out ++ [(kx, ta, rp, wd)]) = Fin) := by
            have := HG.out
            rw [← HLEN.out, List.drop_length, goG] at this
            exact this
          clear HG
          cases d
          · have HE2 : Hid (out ++ [(kx, ta, rp, wd)] = Fin) := HE.out
            go_wp2_with (at_builtin; refine Stop.at ?_)
            unfold Stop
            have BQ1 := hide (bel1 wr (.cells #[.string kx, .int .i64 ta, .int .i64 rp, .string wd] 24))
            refine append_rows rfl _ _ 22 rfl Try.underlying22 Try.infoNot rfl (by decide) (by decide) encN_len encN_one u.heap.size _ out [(kx, ta, rp, wd)] rfl (HO.out.below BQ1.out) (some ⟨wr.heap.size, 0, none⟩) 1 1 rfl (fun h => by cases h) (RS.new encN_len wr _ rfl [(kx, ta, rp, wd)] _ (by simp [encN]) _ _ 1 rfl (by decide)) (by have h9 := HOL.out; simp at h9 ⊢; omega) (Nat.le_trans HB.out.size BQ1.out.size) ?_
            intro v1 w1 ho1 hg1 hbel1
            have HO1 := hide ho1
            have HB1 := hide (hbel1 _ (bel_next HB.out BQ1.out))
            clear ho1 hg1 hbel1 BQ1
            replace HO := HO1
            replace HB := HB1
            clear HO1 HB1
            rw [HE2.out] at HO
            obtain ⟨p, c, rfl, h1, h2⟩ := HO.out.open encN_len
            have H1 := hide h1
            have H2 := hide h2
            clear h1 h2
            go_wp2
            go_ret
            exact ⟨p, c, rfl, H1.out, H2.out, bel_next HB0.out HB.out⟩
          · have HE2 : Hid (out = Fin) := HE.out
            rw [HE2.out] at HO
            obtain ⟨p, c, rfl, h1, h2⟩ := HO.out.open encN_len
            have H1 := hide h1
            have H2 := hide h2
            clear h1 h2
            go_wp2
            go_ret
            exact ⟨p, c, rfl, H1.out, H2.out, bel_next HB0.out HB.out⟩
end Go.Proofs.Ytohkopjacpendaa
