/- One and Same of the document (layer 15). -/
import Derived.Test.YtadmibfnjhockaaDoorN6
import Derived.Test.YtadmibfnjhockaaDoorG0
namespace Go.Proofs.YtadmibfnjhockaaDoor
open Go.RowKit Go.Lib
set_option linter.unusedVariables false
theorem RD3.addr {w : World} {a : Option Addr} {n : Nat} {l : List Dd} (h : RS encDd 3 w a n l) (h0 : 0 < n) : ∃ b off, a = some ⟨b, off, none⟩ := by
  rcases h.2.2 with hz | ⟨b, off, ha, _⟩
  · omega
  · exact ⟨b, off, ha⟩
theorem RD3.at {w : World} {b off n : Nat} {l : List Dd} (h : RS encDd 3 w (some ⟨b, off, none⟩) n l) (i : Nat) (hi : i < n) : ∃ (kd : Int) (tx : ByteArray) (nn : Int), l[i]? = some (kd, tx, nn) ∧ w.cell? ⟨b, off + i * 3, none⟩ = some (.int .i64 kd) ∧ w.cell? ⟨b, off + i * 3 + 1, none⟩ = some (.string tx) ∧ w.cell? ⟨b, off + i * 3 + 2, none⟩ = some (.int .i64 nn) := by
  have hl : i < l.length := by rw [h.1]; exact hi
  have hx : l[i]? = some l[i] := List.getElem?_eq_getElem hl
  rcases h.2.2 with h0 | ⟨b', off', ha, hc⟩
  · omega
  · cases ha
    have q := hc i _ hx
    exact ⟨_, _, _, hx, q 0 _ rfl, q 1 _ rfl, q 2 _ rfl⟩
set_option maxRecDepth 2000 in
set_option maxHeartbeats 8000000 in
theorem One15 (b : Bool) (d d' : Dc) (hb : b = true ↔ d = d') (p p' : Option Addr) (c c' : Nat) (w : World) (hA : RS encDd 3 w p d.2.2.2.2.2.1.length d.2.2.2.2.2.1) (hA' : RS encDd 3 w p' d'.2.2.2.2.2.1.length d'.2.2.2.2.2.1) : Calls Tryd.prog 19 #[.agg (decV d p d.2.2.2.2.2.1.length c), .agg (decV d' p' d'.2.2.2.2.2.1.length c')] w fun e w' => e = .returned (.bool b) ∧ Below w.heap.size w w' := by
  obtain ⟨k1, k2, k3, k4, k5, k6, k7⟩ := d
  obtain ⟨m1, m2, m3, m4, m5, m6, m7⟩ := d'
  simp only [decV] at hA hA' ⊢
  have HB : Hid (Below w.heap.size w ((w.alloc (.cells #[.int .i64 k1, .bool k2, .string k3, .string k4, .int .i64 k5, .slice p k6.length c, .int .i64 k7] 32)).alloc (.cells #[.int .i64 m1, .bool m2, .string m3, .string m4, .int .i64 m5, .slice p' m6.length c', .int .i64 m7] 32))) := bel_next (bel1 w _) (bel1 _ _)
  have HX : Hid (BX ((w.alloc (.cells #[.int .i64 k1, .bool k2, .string k3, .string k4, .int .i64 k5, .slice p k6.length c, .int .i64 k7] 32)).alloc (.cells #[.int .i64 m1, .bool m2, .string m3, .string m4, .int .i64 m5, .slice p' m6.length c', .int .i64 m7] 32)) w.heap.size #[.int .i64 k1, .bool k2, .string k3, .string k4, .int .i64 k5, .slice p k6.length c, .int .i64 k7] 32) := (BX.new w _ rfl _ _).below (bel1 _ _)
  have HY : Hid (BX ((w.alloc (.cells #[.int .i64 k1, .bool k2, .string k3, .string k4, .int .i64 k5, .slice p k6.length c, .int .i64 k7] 32)).alloc (.cells #[.int .i64 m1, .bool m2, .string m3, .string m4, .int .i64 m5, .slice p' m6.length c', .int .i64 m7] 32)) (w.heap.size + 1) #[.int .i64 m1, .bool m2, .string m3, .string m4, .int .i64 m5, .slice p' m6.length c', .int .i64 m7] 32) := BX.new _ _ (by simp) _ _
  by_cases h1 : k1 = m1
  · subst h1
    by_cases h2 : k2 = m2
    · subst h2
      have q3 := eqK k3 m3
      by_cases h3 : k3 = m3
      · rw [decide_eq_true h3] at q3
        subst h3
        have q4 := eqK k4 m4
        by_cases h4 : k4 = m4
        · rw [decide_eq_true h4] at q4
          subst h4
          by_cases h5 : k5 = m5
          · subst h5
            by_cases h7 : k7 = m7
            · subst h7
              by_cases h6 : k6.length = m6.length
              · rw [← h6] at HX HY HB hA' ⊢
                generalize hk : k6.length = n6 at *
                have HN6 := hide hk
                have HM6 := hide h6.symm
                have HA := hide hA
                have HA' := hide hA'
                have HBB := hide hb
                have hmx := hA.2.1
                unfold maxLen at hmx
                clear hA hA' hb hk h6
                go_enter Tryd.func19, Tryd.ntmps19
                go_upto_region 1 with fail
                generalize ((w.alloc (.cells #[.int .i64 k1, .bool k2, .string k3, .string k4, .int .i64 k5, .slice p n6 c, .int .i64 k7] 32)).alloc (.cells #[.int .i64 k1, .bool k2, .string k3, .string k4, .int .i64 k5, .slice p' n6 c', .int .i64 k7] 32)) = w2 at *
                have c0 := HX.out.cell 0 _ rfl
                have d0 := HY.out.cell 0 _ rfl
                have c1 := HX.out.cell 1 _ rfl
                have d1 := HY.out.cell 1 _ rfl
                have c2 := HX.out.cell 2 _ rfl
                have d2 := HY.out.cell 2 _ rfl
                have c3 := HX.out.cell 3 _ rfl
                have d3 := HY.out.cell 3 _ rfl
                have c4 := HX.out.cell 4 _ rfl
                have d4 := HY.out.cell 4 _ rfl
                have c5 := HX.out.cell 5 _ rfl
                have d5 := HY.out.cell 5 _ rfl
                have c6 := HX.out.cell 6 _ rfl
                have d6 := HY.out.cell 6 _ rfl
                go_upto_region 3 with fail
                clear c0 c1 c2 c3 c4 c5 c6 d0 d1 d2 d3 d4 d5 d6
                go_wp2
                go_loopw [5] (fun v wr => ∃ k0 : Nat, k0 ≤ n6 ∧ v = .int .i64 k0 ∧ Hid (k6.take k0 = m6.take k0) ∧ Hid (Below w2.heap.size w2 wr)) (fun v _ => n6 - (intOf v).toNat)
                case atStart => exact ⟨0, by omega, rfl, (show _ = _ by simp), Below.refl _ _⟩
                case round =>
                  obtain ⟨k0, hk, rfl, HF, HW⟩ := hrel
                  have x5 := (HX.out.below HW.out).cell 5 _ rfl
                  have z5 := (HY.out.below HW.out).cell 5 _ rfl
                  by_cases hlt : k0 < n6
                  · have hA1 := HA.out.below (bel_next HB.out HW.out)
                    have hA2 := HA'.out.below (bel_next HB.out HW.out)
                    obtain ⟨b1, o1, rfl⟩ := RD3.addr hA1 (by omega)
                    obtain ⟨b2, o2, rfl⟩ := RD3.addr hA2 (by omega)
                    obtain ⟨a1, a2, a3, hx, c0, c1, c2⟩ := RD3.at hA1 k0 hlt
                    obtain ⟨g1, g2, g3, hx', d0, d1, d2⟩ := RD3.at hA2 k0 hlt
                    have hk0 : (0 : Int) ≤ (k0 : Int) := by omega
                    have hk1 : (k0 : Int) < (n6 : Int) := by omega
                    have hq := eqK a2 g2
                    have HX1 := hide hx
                    have HX2 := hide hx'
                    clear hx hx' hA1 hA2
                    by_cases j1 : a1 = g1
                    · subst j1
                      by_cases j2 : a2 = g2
                      · rw [decide_eq_true j2] at hq
                        subst j2
                        by_cases j3 : a3 = g3
                        · subst j3
                          have HF2 : Hid (k6.take (k0 + 1) = m6.take (k0 + 1)) := by unfold Hid; rw [takeG_snoc HX1.out, takeG_snoc HX2.out, HF.out]
                          go_upto_region 6 with fail
                          refine wp_region_held_drew (S := fun W => Below wr.heap.size wr W) (by kernel_rfl) ((Below.refl _ wr).drew) (fun hS0 => ?_)
                          refine takeInH 0 62 ?v1 rfl rfl (by kernel_rfl) (by kernel_rfl) (by kernel_rfl) (fun _ _ _ h => h) (by kernel_rfl) hS0 ?hy1 ?_
                          case hy1 => (intro W hW; clear hW; go_simp; try rfl)
                          simp only [Act.put, List.setIfInBounds_toArray, List.set_cons_zero, List.set_cons_succ]
                          refine takeInH 1 63 ?v2 rfl rfl (by kernel_rfl) (by kernel_rfl) (by kernel_rfl) (fun _ _ _ h => h) (by kernel_rfl) hS0 ?hy2 ?_
                          case hy2 => (intro W hW; have e0 := bcell hW x5; have e1 := bcell hW z5; have e2 := bcell hW c0; have e3 := bcell hW c1; have e4 := bcell hW c2; have e5 := bcell hW d0; have e6 := bcell hW d1; have e7 := bcell hW d2; clear hW; go_simp; try rfl)
                          simp only [Act.put, List.setIfInBounds_toArray, List.set_cons_zero, List.set_cons_succ]
                          refine takeInH 2 64 ?v3 rfl rfl (by kernel_rfl) (by kernel_rfl) (by kernel_rfl) (fun _ _ _ h => h) (by kernel_rfl) hS0 ?hy3 ?_
                          case hy3 => (intro W hW; clear hW; go_simp; try rfl)
                          simp only [Act.put, List.setIfInBounds_toArray, List.set_cons_zero, List.set_cons_succ]
                          refine takeInH 3 65 ?v4 rfl rfl (by kernel_rfl) (by kernel_rfl) (by kernel_rfl) (fun _ _ _ h => h) (by kernel_rfl) hS0 ?hy4 ?_
                          case hy4 => (intro W hW; clear hW; go_simp; try rfl)
                          simp only [Act.put, List.setIfInBounds_toArray, List.set_cons_zero, List.set_cons_succ]
                          refine takeInH 4 66 ?v5 rfl rfl (by kernel_rfl) (by kernel_rfl) (by kernel_rfl) (fun _ _ _ h => h) (by kernel_rfl) hS0 ?hy5 ?_
                          case hy5 => (intro W hW; have e0 := bcell hW x5; have e1 := bcell hW z5; have e2 := bcell hW c0; have e3 := bcell hW c1; have e4 := bcell hW c2; have e5 := bcell hW d0; have e6 := bcell hW d1; have e7 := bcell hW d2; clear hW; go_simp; try rfl)
                          simp only [Act.put, List.setIfInBounds_toArray, List.set_cons_zero, List.set_cons_succ]
                          refine takeInH 5 67 ?v6 rfl rfl (by kernel_rfl) (by kernel_rfl) (by kernel_rfl) (fun _ _ _ h => h) (by kernel_rfl) hS0 ?hy6 ?_
                          case hy6 => (intro W hW; clear hW; go_simp; try rfl)
                          simp only [Act.put, List.setIfInBounds_toArray, List.set_cons_zero, List.set_cons_succ]
                          refine takeInH 6 68 ?v7 rfl rfl (by kernel_rfl) (by kernel_rfl) (by kernel_rfl) (fun _ _ _ h => h) (by kernel_rfl) hS0 ?hy7 ?_
                          case hy7 => (intro W hW; have e0 := bcell hW x5; have e1 := bcell hW z5; have e2 := bcell hW c0; have e3 := bcell hW c1; have e4 := bcell hW c2; have e5 := bcell hW d0; have e6 := bcell hW d1; have e7 := bcell hW d2; clear hW; go_simp; try rfl)
                          simp only [Act.put, List.setIfInBounds_toArray, List.set_cons_zero, List.set_cons_succ]
                          refine takeInH 7 69 ?v8 rfl rfl (by kernel_rfl) (by kernel_rfl) (by kernel_rfl) (fun _ _ _ h => h) (by kernel_rfl) hS0 ?hy8 ?_
                          case hy8 => (intro W hW; clear hW; go_simp; try rfl)
                          simp only [Act.put, List.setIfInBounds_toArray, List.set_cons_zero, List.set_cons_succ]
                          refine takeInH 8 70 ?v9 rfl rfl (by kernel_rfl) (by kernel_rfl) (by kernel_rfl) (fun _ _ _ h => h) (by kernel_rfl) hS0 ?hy9 ?_
                          case hy9 => (intro W hW; clear hW; go_simp; try rfl)
                          simp only [Act.put, List.setIfInBounds_toArray, List.set_cons_zero, List.set_cons_succ]
                          refine takeInH 9 71 ?v10 rfl rfl (by kernel_rfl) (by kernel_rfl) (by kernel_rfl) (fun _ _ _ h => h) (by kernel_rfl) hS0 ?hy10 ?_
                          case hy10 => (intro W hW; have e0 := bcell hW x5; have e1 := bcell hW z5; have e2 := bcell hW c0; have e3 := bcell hW c1; have e4 := bcell hW c2; have e5 := bcell hW d0; have e6 := bcell hW d1; have e7 := bcell hW d2; clear hW; go_simp; try rfl)
                          simp only [Act.put, List.setIfInBounds_toArray, List.set_cons_zero, List.set_cons_succ]
                          refine takeInH 10 72 ?v11 rfl rfl (by kernel_rfl) (by kernel_rfl) (by kernel_rfl) (fun _ _ _ h => h) (by kernel_rfl) hS0 ?hy11 ?_
                          case hy11 => (intro W hW; clear hW; go_simp; try rfl)
                          simp only [Act.put, List.setIfInBounds_toArray, List.set_cons_zero, List.set_cons_succ]
                          refine wpAnyH_done (by kernel_rfl) ?_ _
                          go_wp2
                          go_roundw
                          case rel => exact ⟨k0 + 1, by omega, by go_num, HF2, (show Hid _ from bel_next HW.out hS0)⟩
                          case measure => simp [intOf]; omega
                        · have e2 : (a3 == g3) = false := by rw [beq_eq_false_iff_ne]; exact j3
                          have HNO : Hid (b = false) := by
                            cases b
                            · rfl
                            · exfalso
                              have q : k6 = m6 := by have e := HBB.out.1 rfl; cases e; rfl
                              have h1 := HX1.out
                              rw [q, HX2.out] at h1
                              cases h1
                              exact j3 rfl
                          go_upto_region 6 with fail
                          refine wp_region_held_drew (S := fun W => Below wr.heap.size wr W) (by kernel_rfl) ((Below.refl _ wr).drew) (fun hS0 => ?_)
                          refine takeInH 0 62 ?v12 rfl rfl (by kernel_rfl) (by kernel_rfl) (by kernel_rfl) (fun _ _ _ h => h) (by kernel_rfl) hS0 ?hy12 ?_
                          case hy12 => (intro W hW; clear hW; go_simp; try rfl)
                          simp only [Act.put, List.setIfInBounds_toArray, List.set_cons_zero, List.set_cons_succ]
                          refine takeInH 1 63 ?v13 rfl rfl (by kernel_rfl) (by kernel_rfl) (by kernel_rfl) (fun _ _ _ h => h) (by kernel_rfl) hS0 ?hy13 ?_
                          case hy13 => (intro W hW; have e0 := bcell hW x5; have e1 := bcell hW z5; have e2 := bcell hW c0; have e3 := bcell hW c1; have e4 := bcell hW c2; have e5 := bcell hW d0; have e6 := bcell hW d1; have e7 := bcell hW d2; clear hW; go_simp; try rfl)
                          simp only [Act.put, List.setIfInBounds_toArray, List.set_cons_zero, List.set_cons_succ]
                          refine takeInH 2 64 ?v14 rfl rfl (by kernel_rfl) (by kernel_rfl) (by kernel_rfl) (fun _ _ _ h => h) (by kernel_rfl) hS0 ?hy14 ?_
                          case hy14 => (intro W hW; clear hW; go_simp; try rfl)
                          simp only [Act.put, List.setIfInBounds_toArray, List.set_cons_zero, List.set_cons_succ]
                          refine takeInH 3 65 ?v15 rfl rfl (by kernel_rfl) (by kernel_rfl) (by kernel_rfl) (fun _ _ _ h => h) (by kernel_rfl) hS0 ?hy15 ?_
                          case hy15 => (intro W hW; clear hW; go_simp; try rfl)
                          simp only [Act.put, List.setIfInBounds_toArray, List.set_cons_zero, List.set_cons_succ]
                          refine takeInH 4 66 ?v16 rfl rfl (by kernel_rfl) (by kernel_rfl) (by kernel_rfl) (fun _ _ _ h => h) (by kernel_rfl) hS0 ?hy16 ?_
                          case hy16 => (intro W hW; have e0 := bcell hW x5; have e1 := bcell hW z5; have e2 := bcell hW c0; have e3 := bcell hW c1; have e4 := bcell hW c2; have e5 := bcell hW d0; have e6 := bcell hW d1; have e7 := bcell hW d2; clear hW; go_simp; try rfl)
                          simp only [Act.put, List.setIfInBounds_toArray, List.set_cons_zero, List.set_cons_succ]
                          refine takeInH 5 67 ?v17 rfl rfl (by kernel_rfl) (by kernel_rfl) (by kernel_rfl) (fun _ _ _ h => h) (by kernel_rfl) hS0 ?hy17 ?_
                          case hy17 => (intro W hW; clear hW; go_simp; try rfl)
                          simp only [Act.put, List.setIfInBounds_toArray, List.set_cons_zero, List.set_cons_succ]
                          refine takeInH 6 68 ?v18 rfl rfl (by kernel_rfl) (by kernel_rfl) (by kernel_rfl) (fun _ _ _ h => h) (by kernel_rfl) hS0 ?hy18 ?_
                          case hy18 => (intro W hW; have e0 := bcell hW x5; have e1 := bcell hW z5; have e2 := bcell hW c0; have e3 := bcell hW c1; have e4 := bcell hW c2; have e5 := bcell hW d0; have e6 := bcell hW d1; have e7 := bcell hW d2; clear hW; go_simp; try rfl)
                          simp only [Act.put, List.setIfInBounds_toArray, List.set_cons_zero, List.set_cons_succ]
                          refine takeInH 7 69 ?v19 rfl rfl (by kernel_rfl) (by kernel_rfl) (by kernel_rfl) (fun _ _ _ h => h) (by kernel_rfl) hS0 ?hy19 ?_
                          case hy19 => (intro W hW; clear hW; go_simp; try rfl)
                          simp only [Act.put, List.setIfInBounds_toArray, List.set_cons_zero, List.set_cons_succ]
                          refine takeInH 8 70 ?v20 rfl rfl (by kernel_rfl) (by kernel_rfl) (by kernel_rfl) (fun _ _ _ h => h) (by kernel_rfl) hS0 ?hy20 ?_
                          case hy20 => (intro W hW; clear hW; go_simp; try rfl)
                          simp only [Act.put, List.setIfInBounds_toArray, List.set_cons_zero, List.set_cons_succ]
                          refine takeInH 9 71 ?v21 rfl rfl (by kernel_rfl) (by kernel_rfl) (by kernel_rfl) (fun _ _ _ h => h) (by kernel_rfl) hS0 ?hy21 ?_
                          case hy21 => (intro W hW; have e0 := bcell hW x5; have e1 := bcell hW z5; have e2 := bcell hW c0; have e3 := bcell hW c1; have e4 := bcell hW c2; have e5 := bcell hW d0; have e6 := bcell hW d1; have e7 := bcell hW d2; clear hW; go_simp; try rfl)
                          simp only [Act.put, List.setIfInBounds_toArray, List.set_cons_zero, List.set_cons_succ]
                          refine takeInH 10 72 ?v22 rfl rfl (by kernel_rfl) (by kernel_rfl) (by kernel_rfl) (fun _ _ _ h => h) (by kernel_rfl) hS0 ?hy22 ?_
                          case hy22 => (intro W hW; clear hW; go_simp; try rfl)
                          simp only [Act.put, List.setIfInBounds_toArray, List.set_cons_zero, List.set_cons_succ]
                          refine wpAnyH_done (by kernel_rfl) ?_ _
                          go_wp2
                          go_ret
                          exact ⟨by rw [HNO.out]; rfl, bel_next HB.out (bel_next HW.out hS0)⟩
                      · rw [decide_eq_false j2] at hq
                        have HNO : Hid (b = false) := by
                          cases b
                          · rfl
                          · exfalso
                            have q : k6 = m6 := by have e := HBB.out.1 rfl; cases e; rfl
                            have h1 := HX1.out
                            rw [q, HX2.out] at h1
                            cases h1
                            exact j2 rfl
                        go_upto_region 6 with fail
                        refine wp_region_held_drew (S := fun W => Below wr.heap.size wr W) (by kernel_rfl) ((Below.refl _ wr).drew) (fun hS0 => ?_)
                        refine takeInH 0 62 ?v23 rfl rfl (by kernel_rfl) (by kernel_rfl) (by kernel_rfl) (fun _ _ _ h => h) (by kernel_rfl) hS0 ?hy23 ?_
                        case hy23 => (intro W hW; clear hW; go_simp; try rfl)
                        simp only [Act.put, List.setIfInBounds_toArray, List.set_cons_zero, List.set_cons_succ]
                        refine takeInH 1 63 ?v24 rfl rfl (by kernel_rfl) (by kernel_rfl) (by kernel_rfl) (fun _ _ _ h => h) (by kernel_rfl) hS0 ?hy24 ?_
                        case hy24 => (intro W hW; have e0 := bcell hW x5; have e1 := bcell hW z5; have e2 := bcell hW c0; have e3 := bcell hW c1; have e4 := bcell hW c2; have e5 := bcell hW d0; have e6 := bcell hW d1; have e7 := bcell hW d2; clear hW; go_simp; try rfl)
                        simp only [Act.put, List.setIfInBounds_toArray, List.set_cons_zero, List.set_cons_succ]
                        refine takeInH 2 64 ?v25 rfl rfl (by kernel_rfl) (by kernel_rfl) (by kernel_rfl) (fun _ _ _ h => h) (by kernel_rfl) hS0 ?hy25 ?_
                        case hy25 => (intro W hW; clear hW; go_simp; try rfl)
                        simp only [Act.put, List.setIfInBounds_toArray, List.set_cons_zero, List.set_cons_succ]
                        refine takeInH 3 65 ?v26 rfl rfl (by kernel_rfl) (by kernel_rfl) (by kernel_rfl) (fun _ _ _ h => h) (by kernel_rfl) hS0 ?hy26 ?_
                        case hy26 => (intro W hW; clear hW; go_simp; try rfl)
                        simp only [Act.put, List.setIfInBounds_toArray, List.set_cons_zero, List.set_cons_succ]
                        refine takeInH 4 66 ?v27 rfl rfl (by kernel_rfl) (by kernel_rfl) (by kernel_rfl) (fun _ _ _ h => h) (by kernel_rfl) hS0 ?hy27 ?_
                        case hy27 => (intro W hW; have e0 := bcell hW x5; have e1 := bcell hW z5; have e2 := bcell hW c0; have e3 := bcell hW c1; have e4 := bcell hW c2; have e5 := bcell hW d0; have e6 := bcell hW d1; have e7 := bcell hW d2; clear hW; go_simp; try rfl)
                        simp only [Act.put, List.setIfInBounds_toArray, List.set_cons_zero, List.set_cons_succ]
                        refine takeInH 5 67 ?v28 rfl rfl (by kernel_rfl) (by kernel_rfl) (by kernel_rfl) (fun _ _ _ h => h) (by kernel_rfl) hS0 ?hy28 ?_
                        case hy28 => (intro W hW; clear hW; go_simp; try rfl)
                        simp only [Act.put, List.setIfInBounds_toArray, List.set_cons_zero, List.set_cons_succ]
                        refine takeInH 6 68 ?v29 rfl rfl (by kernel_rfl) (by kernel_rfl) (by kernel_rfl) (fun _ _ _ h => h) (by kernel_rfl) hS0 ?hy29 ?_
                        case hy29 => (intro W hW; have e0 := bcell hW x5; have e1 := bcell hW z5; have e2 := bcell hW c0; have e3 := bcell hW c1; have e4 := bcell hW c2; have e5 := bcell hW d0; have e6 := bcell hW d1; have e7 := bcell hW d2; clear hW; go_simp; try rfl)
                        simp only [Act.put, List.setIfInBounds_toArray, List.set_cons_zero, List.set_cons_succ]
                        refine takeInH 7 69 ?v30 rfl rfl (by kernel_rfl) (by kernel_rfl) (by kernel_rfl) (fun _ _ _ h => h) (by kernel_rfl) hS0 ?hy30 ?_
                        case hy30 => (intro W hW; clear hW; go_simp; try rfl)
                        simp only [Act.put, List.setIfInBounds_toArray, List.set_cons_zero, List.set_cons_succ]
                        refine takeInH 8 70 ?v31 rfl rfl (by kernel_rfl) (by kernel_rfl) (by kernel_rfl) (fun _ _ _ h => h) (by kernel_rfl) hS0 ?hy31 ?_
                        case hy31 => (intro W hW; clear hW; go_simp; try rfl)
                        simp only [Act.put, List.setIfInBounds_toArray, List.set_cons_zero, List.set_cons_succ]
                        refine takeInH 9 71 ?v32 rfl rfl (by kernel_rfl) (by kernel_rfl) (by kernel_rfl) (fun _ _ _ h => h) (by kernel_rfl) hS0 ?hy32 ?_
                        case hy32 => (intro W hW; have e0 := bcell hW x5; have e1 := bcell hW z5; have e2 := bcell hW c0; have e3 := bcell hW c1; have e4 := bcell hW c2; have e5 := bcell hW d0; have e6 := bcell hW d1; have e7 := bcell hW d2; clear hW; go_simp; try rfl)
                        simp only [Act.put, List.setIfInBounds_toArray, List.set_cons_zero, List.set_cons_succ]
                        refine takeInH 10 72 ?v33 rfl rfl (by kernel_rfl) (by kernel_rfl) (by kernel_rfl) (fun _ _ _ h => h) (by kernel_rfl) hS0 ?hy33 ?_
                        case hy33 => (intro W hW; clear hW; go_simp; try rfl)
                        simp only [Act.put, List.setIfInBounds_toArray, List.set_cons_zero, List.set_cons_succ]
                        refine wpAnyH_done (by kernel_rfl) ?_ _
                        go_wp2
                        go_ret
                        exact ⟨by rw [HNO.out]; rfl, bel_next HB.out (bel_next HW.out hS0)⟩
                    · have e2 : (a1 == g1) = false := by rw [beq_eq_false_iff_ne]; exact j1
                      have HNO : Hid (b = false) := by
                        cases b
                        · rfl
                        · exfalso
                          have q : k6 = m6 := by have e := HBB.out.1 rfl; cases e; rfl
                          have h1 := HX1.out
                          rw [q, HX2.out] at h1
                          cases h1
                          exact j1 rfl
                      go_upto_region 6 with fail
                      refine wp_region_held_drew (S := fun W => Below wr.heap.size wr W) (by kernel_rfl) ((Below.refl _ wr).drew) (fun hS0 => ?_)
                      refine takeInH 0 62 ?v34 rfl rfl (by kernel_rfl) (by kernel_rfl) (by kernel_rfl) (fun _ _ _ h => h) (by kernel_rfl) hS0 ?hy34 ?_
                      case hy34 => (intro W hW; clear hW; go_simp; try rfl)
                      simp only [Act.put, List.setIfInBounds_toArray, List.set_cons_zero, List.set_cons_succ]
                      refine takeInH 1 63 ?v35 rfl rfl (by kernel_rfl) (by kernel_rfl) (by kernel_rfl) (fun _ _ _ h => h) (by kernel_rfl) hS0 ?hy35 ?_
                      case hy35 => (intro W hW; have e0 := bcell hW x5; have e1 := bcell hW z5; have e2 := bcell hW c0; have e3 := bcell hW c1; have e4 := bcell hW c2; have e5 := bcell hW d0; have e6 := bcell hW d1; have e7 := bcell hW d2; clear hW; go_simp; try rfl)
                      simp only [Act.put, List.setIfInBounds_toArray, List.set_cons_zero, List.set_cons_succ]
                      refine takeInH 2 64 ?v36 rfl rfl (by kernel_rfl) (by kernel_rfl) (by kernel_rfl) (fun _ _ _ h => h) (by kernel_rfl) hS0 ?hy36 ?_
                      case hy36 => (intro W hW; clear hW; go_simp; try rfl)
                      simp only [Act.put, List.setIfInBounds_toArray, List.set_cons_zero, List.set_cons_succ]
                      refine takeInH 3 65 ?v37 rfl rfl (by kernel_rfl) (by kernel_rfl) (by kernel_rfl) (fun _ _ _ h => h) (by kernel_rfl) hS0 ?hy37 ?_
                      case hy37 => (intro W hW; clear hW; go_simp; try rfl)
                      simp only [Act.put, List.setIfInBounds_toArray, List.set_cons_zero, List.set_cons_succ]
                      refine takeInH 4 66 ?v38 rfl rfl (by kernel_rfl) (by kernel_rfl) (by kernel_rfl) (fun _ _ _ h => h) (by kernel_rfl) hS0 ?hy38 ?_
                      case hy38 => (intro W hW; have e0 := bcell hW x5; have e1 := bcell hW z5; have e2 := bcell hW c0; have e3 := bcell hW c1; have e4 := bcell hW c2; have e5 := bcell hW d0; have e6 := bcell hW d1; have e7 := bcell hW d2; clear hW; go_simp; try rfl)
                      simp only [Act.put, List.setIfInBounds_toArray, List.set_cons_zero, List.set_cons_succ]
                      refine takeInH 5 67 ?v39 rfl rfl (by kernel_rfl) (by kernel_rfl) (by kernel_rfl) (fun _ _ _ h => h) (by kernel_rfl) hS0 ?hy39 ?_
                      case hy39 => (intro W hW; clear hW; go_simp; try rfl)
                      simp only [Act.put, List.setIfInBounds_toArray, List.set_cons_zero, List.set_cons_succ]
                      refine takeInH 6 68 ?v40 rfl rfl (by kernel_rfl) (by kernel_rfl) (by kernel_rfl) (fun _ _ _ h => h) (by kernel_rfl) hS0 ?hy40 ?_
                      case hy40 => (intro W hW; have e0 := bcell hW x5; have e1 := bcell hW z5; have e2 := bcell hW c0; have e3 := bcell hW c1; have e4 := bcell hW c2; have e5 := bcell hW d0; have e6 := bcell hW d1; have e7 := bcell hW d2; clear hW; go_simp; try rfl)
                      simp only [Act.put, List.setIfInBounds_toArray, List.set_cons_zero, List.set_cons_succ]
                      refine takeInH 7 69 ?v41 rfl rfl (by kernel_rfl) (by kernel_rfl) (by kernel_rfl) (fun _ _ _ h => h) (by kernel_rfl) hS0 ?hy41 ?_
                      case hy41 => (intro W hW; clear hW; go_simp; try rfl)
                      simp only [Act.put, List.setIfInBounds_toArray, List.set_cons_zero, List.set_cons_succ]
                      refine takeInH 8 70 ?v42 rfl rfl (by kernel_rfl) (by kernel_rfl) (by kernel_rfl) (fun _ _ _ h => h) (by kernel_rfl) hS0 ?hy42 ?_
                      case hy42 => (intro W hW; clear hW; go_simp; try rfl)
                      simp only [Act.put, List.setIfInBounds_toArray, List.set_cons_zero, List.set_cons_succ]
                      refine takeInH 9 71 ?v43 rfl rfl (by kernel_rfl) (by kernel_rfl) (by kernel_rfl) (fun _ _ _ h => h) (by kernel_rfl) hS0 ?hy43 ?_
                      case hy43 => (intro W hW; have e0 := bcell hW x5; have e1 := bcell hW z5; have e2 := bcell hW c0; have e3 := bcell hW c1; have e4 := bcell hW c2; have e5 := bcell hW d0; have e6 := bcell hW d1; have e7 := bcell hW d2; clear hW; go_simp; try rfl)
                      simp only [Act.put, List.setIfInBounds_toArray, List.set_cons_zero, List.set_cons_succ]
                      refine takeInH 10 72 ?v44 rfl rfl (by kernel_rfl) (by kernel_rfl) (by kernel_rfl) (fun _ _ _ h => h) (by kernel_rfl) hS0 ?hy44 ?_
                      case hy44 => (intro W hW; clear hW; go_simp; try rfl)
                      simp only [Act.put, List.setIfInBounds_toArray, List.set_cons_zero, List.set_cons_succ]
                      refine wpAnyH_done (by kernel_rfl) ?_ _
                      go_wp2
                      go_ret
                      exact ⟨by rw [HNO.out]; rfl, bel_next HB.out (bel_next HW.out hS0)⟩
                  · obtain rfl : k0 = n6 := by omega
                    have HE : Hid (b = true) := by
                      have e := HF.out
                      rw [List.take_of_length_le (by rw [HN6.out]; exact Nat.le_refl _), List.take_of_length_le (by rw [HM6.out]; exact Nat.le_refl _)] at e
                      exact HBB.out.2 (by rw [e])
                    clear HF
                    go_wp2
                    go_ret
                    exact ⟨by rw [HE.out]; rfl, bel_next HB.out HW.out⟩
              · have q6 : ((k6.length : Int) != (m6.length : Int)) = true := by simp; omega
                have HNO : Hid (b = false) := by
                  cases b
                  · rfl
                  · exfalso
                    have e := hb.1 rfl
                    cases e
                    exact h6 rfl
                clear h6
                go_enter Tryd.func19, Tryd.ntmps19
                go_upto_region 1 with fail
                generalize ((w.alloc (.cells #[.int .i64 k1, .bool k2, .string k3, .string k4, .int .i64 k5, .slice p k6.length c, .int .i64 k7] 32)).alloc (.cells #[.int .i64 k1, .bool k2, .string k3, .string k4, .int .i64 k5, .slice p' m6.length c', .int .i64 k7] 32)) = w2 at *
                have c0 := HX.out.cell 0 _ rfl
                have d0 := HY.out.cell 0 _ rfl
                have c1 := HX.out.cell 1 _ rfl
                have d1 := HY.out.cell 1 _ rfl
                have c2 := HX.out.cell 2 _ rfl
                have d2 := HY.out.cell 2 _ rfl
                have c3 := HX.out.cell 3 _ rfl
                have d3 := HY.out.cell 3 _ rfl
                have c4 := HX.out.cell 4 _ rfl
                have d4 := HY.out.cell 4 _ rfl
                have c5 := HX.out.cell 5 _ rfl
                have d5 := HY.out.cell 5 _ rfl
                have c6 := HX.out.cell 6 _ rfl
                have d6 := HY.out.cell 6 _ rfl
                go_wp2
                go_ret
                exact ⟨by rw [HNO.out]; rfl, HB.out⟩
            · have q7 : (k7 != m7) = true := by simpa using h7
              have HNO : Hid (b = false) := by
                cases b
                · rfl
                · exfalso
                  have e := hb.1 rfl
                  cases e
                  exact h7 rfl
              clear h7
              go_enter Tryd.func19, Tryd.ntmps19
              go_upto_region 1 with fail
              generalize ((w.alloc (.cells #[.int .i64 k1, .bool k2, .string k3, .string k4, .int .i64 k5, .slice p k6.length c, .int .i64 k7] 32)).alloc (.cells #[.int .i64 k1, .bool k2, .string k3, .string k4, .int .i64 k5, .slice p' m6.length c', .int .i64 m7] 32)) = w2 at *
              have c0 := HX.out.cell 0 _ rfl
              have d0 := HY.out.cell 0 _ rfl
              have c1 := HX.out.cell 1 _ rfl
              have d1 := HY.out.cell 1 _ rfl
              have c2 := HX.out.cell 2 _ rfl
              have d2 := HY.out.cell 2 _ rfl
              have c3 := HX.out.cell 3 _ rfl
              have d3 := HY.out.cell 3 _ rfl
              have c4 := HX.out.cell 4 _ rfl
              have d4 := HY.out.cell 4 _ rfl
              have c5 := HX.out.cell 5 _ rfl
              have d5 := HY.out.cell 5 _ rfl
              have c6 := HX.out.cell 6 _ rfl
              have d6 := HY.out.cell 6 _ rfl
              go_wp2
              go_ret
              exact ⟨by rw [HNO.out]; rfl, HB.out⟩
          · have q5 : (k5 != m5) = true := by simpa using h5
            have HNO : Hid (b = false) := by
              cases b
              · rfl
              · exfalso
                have e := hb.1 rfl
                cases e
                exact h5 rfl
            clear h5
            go_enter Tryd.func19, Tryd.ntmps19
            go_upto_region 1 with fail
            generalize ((w.alloc (.cells #[.int .i64 k1, .bool k2, .string k3, .string k4, .int .i64 k5, .slice p k6.length c, .int .i64 k7] 32)).alloc (.cells #[.int .i64 k1, .bool k2, .string k3, .string k4, .int .i64 m5, .slice p' m6.length c', .int .i64 m7] 32)) = w2 at *
            have c0 := HX.out.cell 0 _ rfl
            have d0 := HY.out.cell 0 _ rfl
            have c1 := HX.out.cell 1 _ rfl
            have d1 := HY.out.cell 1 _ rfl
            have c2 := HX.out.cell 2 _ rfl
            have d2 := HY.out.cell 2 _ rfl
            have c3 := HX.out.cell 3 _ rfl
            have d3 := HY.out.cell 3 _ rfl
            have c4 := HX.out.cell 4 _ rfl
            have d4 := HY.out.cell 4 _ rfl
            have c5 := HX.out.cell 5 _ rfl
            have d5 := HY.out.cell 5 _ rfl
            have c6 := HX.out.cell 6 _ rfl
            have d6 := HY.out.cell 6 _ rfl
            go_wp2
            go_ret
            exact ⟨by rw [HNO.out]; rfl, HB.out⟩
        · rw [decide_eq_false h4] at q4
          have HNO : Hid (b = false) := by
            cases b
            · rfl
            · exfalso
              have e := hb.1 rfl
              cases e
              exact h4 rfl
          clear h4
          go_enter Tryd.func19, Tryd.ntmps19
          go_upto_region 1 with fail
          generalize ((w.alloc (.cells #[.int .i64 k1, .bool k2, .string k3, .string k4, .int .i64 k5, .slice p k6.length c, .int .i64 k7] 32)).alloc (.cells #[.int .i64 k1, .bool k2, .string k3, .string m4, .int .i64 m5, .slice p' m6.length c', .int .i64 m7] 32)) = w2 at *
          have c0 := HX.out.cell 0 _ rfl
          have d0 := HY.out.cell 0 _ rfl
          have c1 := HX.out.cell 1 _ rfl
          have d1 := HY.out.cell 1 _ rfl
          have c2 := HX.out.cell 2 _ rfl
          have d2 := HY.out.cell 2 _ rfl
          have c3 := HX.out.cell 3 _ rfl
          have d3 := HY.out.cell 3 _ rfl
          have c4 := HX.out.cell 4 _ rfl
          have d4 := HY.out.cell 4 _ rfl
          have c5 := HX.out.cell 5 _ rfl
          have d5 := HY.out.cell 5 _ rfl
          have c6 := HX.out.cell 6 _ rfl
          have d6 := HY.out.cell 6 _ rfl
          go_wp2
          go_ret
          exact ⟨by rw [HNO.out]; rfl, HB.out⟩
      · rw [decide_eq_false h3] at q3
        have HNO : Hid (b = false) := by
          cases b
          · rfl
          · exfalso
            have e := hb.1 rfl
            cases e
            exact h3 rfl
        clear h3
        go_enter Tryd.func19, Tryd.ntmps19
        go_upto_region 1 with fail
        generalize ((w.alloc (.cells #[.int .i64 k1, .bool k2, .string k3, .string k4, .int .i64 k5, .slice p k6.length c, .int .i64 k7] 32)).alloc (.cells #[.int .i64 k1, .bool k2, .string m3, .string m4, .int .i64 m5, .slice p' m6.length c', .int .i64 m7] 32)) = w2 at *
        have c0 := HX.out.cell 0 _ rfl
        have d0 := HY.out.cell 0 _ rfl
        have c1 := HX.out.cell 1 _ rfl
        have d1 := HY.out.cell 1 _ rfl
        have c2 := HX.out.cell 2 _ rfl
        have d2 := HY.out.cell 2 _ rfl
        have c3 := HX.out.cell 3 _ rfl
        have d3 := HY.out.cell 3 _ rfl
        have c4 := HX.out.cell 4 _ rfl
        have d4 := HY.out.cell 4 _ rfl
        have c5 := HX.out.cell 5 _ rfl
        have d5 := HY.out.cell 5 _ rfl
        have c6 := HX.out.cell 6 _ rfl
        have d6 := HY.out.cell 6 _ rfl
        go_wp2
        go_ret
        exact ⟨by rw [HNO.out]; rfl, HB.out⟩
    · rcases k2 with _ | _ <;> rcases m2 with _ | _
      · exact absurd rfl h2
      · have HNO : Hid (b = false) := by
          cases b
          · rfl
          · exfalso
            have e := hb.1 rfl
            cases e
        clear h2
        go_enter Tryd.func19, Tryd.ntmps19
        go_upto_region 1 with fail
        generalize ((w.alloc (.cells #[.int .i64 k1, .bool false, .string k3, .string k4, .int .i64 k5, .slice p k6.length c, .int .i64 k7] 32)).alloc (.cells #[.int .i64 k1, .bool true, .string m3, .string m4, .int .i64 m5, .slice p' m6.length c', .int .i64 m7] 32)) = w2 at *
        have c0 := HX.out.cell 0 _ rfl
        have d0 := HY.out.cell 0 _ rfl
        have c1 := HX.out.cell 1 _ rfl
        have d1 := HY.out.cell 1 _ rfl
        have c2 := HX.out.cell 2 _ rfl
        have d2 := HY.out.cell 2 _ rfl
        have c3 := HX.out.cell 3 _ rfl
        have d3 := HY.out.cell 3 _ rfl
        have c4 := HX.out.cell 4 _ rfl
        have d4 := HY.out.cell 4 _ rfl
        have c5 := HX.out.cell 5 _ rfl
        have d5 := HY.out.cell 5 _ rfl
        have c6 := HX.out.cell 6 _ rfl
        have d6 := HY.out.cell 6 _ rfl
        go_wp2
        go_ret
        exact ⟨by rw [HNO.out]; rfl, HB.out⟩
      · have HNO : Hid (b = false) := by
          cases b
          · rfl
          · exfalso
            have e := hb.1 rfl
            cases e
        clear h2
        go_enter Tryd.func19, Tryd.ntmps19
        go_upto_region 1 with fail
        generalize ((w.alloc (.cells #[.int .i64 k1, .bool true, .string k3, .string k4, .int .i64 k5, .slice p k6.length c, .int .i64 k7] 32)).alloc (.cells #[.int .i64 k1, .bool false, .string m3, .string m4, .int .i64 m5, .slice p' m6.length c', .int .i64 m7] 32)) = w2 at *
        have c0 := HX.out.cell 0 _ rfl
        have d0 := HY.out.cell 0 _ rfl
        have c1 := HX.out.cell 1 _ rfl
        have d1 := HY.out.cell 1 _ rfl
        have c2 := HX.out.cell 2 _ rfl
        have d2 := HY.out.cell 2 _ rfl
        have c3 := HX.out.cell 3 _ rfl
        have d3 := HY.out.cell 3 _ rfl
        have c4 := HX.out.cell 4 _ rfl
        have d4 := HY.out.cell 4 _ rfl
        have c5 := HX.out.cell 5 _ rfl
        have d5 := HY.out.cell 5 _ rfl
        have c6 := HX.out.cell 6 _ rfl
        have d6 := HY.out.cell 6 _ rfl
        go_wp2
        go_ret
        exact ⟨by rw [HNO.out]; rfl, HB.out⟩
      · exact absurd rfl h2
  · have q1 : (k1 != m1) = true := by simpa using h1
    have HNO : Hid (b = false) := by
      cases b
      · rfl
      · exfalso
        have e := hb.1 rfl
        cases e
        exact h1 rfl
    clear h1
    go_enter Tryd.func19, Tryd.ntmps19
    go_upto_region 1 with fail
    generalize ((w.alloc (.cells #[.int .i64 k1, .bool k2, .string k3, .string k4, .int .i64 k5, .slice p k6.length c, .int .i64 k7] 32)).alloc (.cells #[.int .i64 m1, .bool m2, .string m3, .string m4, .int .i64 m5, .slice p' m6.length c', .int .i64 m7] 32)) = w2 at *
    have c0 := HX.out.cell 0 _ rfl
    have d0 := HY.out.cell 0 _ rfl
    have c1 := HX.out.cell 1 _ rfl
    have d1 := HY.out.cell 1 _ rfl
    have c2 := HX.out.cell 2 _ rfl
    have d2 := HY.out.cell 2 _ rfl
    have c3 := HX.out.cell 3 _ rfl
    have d3 := HY.out.cell 3 _ rfl
    have c4 := HX.out.cell 4 _ rfl
    have d4 := HY.out.cell 4 _ rfl
    have c5 := HX.out.cell 5 _ rfl
    have d5 := HY.out.cell 5 _ rfl
    have c6 := HX.out.cell 6 _ rfl
    have d6 := HY.out.cell 6 _ rfl
    go_wp2
    go_ret
    exact ⟨by rw [HNO.out]; rfl, HB.out⟩
end Go.Proofs.YtadmibfnjhockaaDoor
