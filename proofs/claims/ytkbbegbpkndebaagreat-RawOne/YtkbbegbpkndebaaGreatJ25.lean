/- Texts of this claim, joined: GNa. -/
import Derived.Test.YtkbbegbpkndebaaGreatJ18
/- What the program checks of a register (layer 12); which of two notes is later. -/
namespace Go.Proofs.YtkbbegbpkndebaaGreat
open Go.RowKit Go.Lib
set_option linter.unusedVariables false
/-- What a check tells. -/
def chkN (s : List Nt) : Int := if mayR12 s = true then 0 else 1
theorem chkN_yes {s : List Nt} (h : mayR12 s = true) : chkN s = 0 := by unfold chkN; rw [if_pos h]
theorem chkN_no {s : List Nt} (h : mayR12 s = false) : chkN s = 1 := by unfold chkN; rw [h]; rfl
set_option maxHeartbeats 2000000 in
theorem note12_any (k : ByteArray) (ta rp : Int) (wd : ByteArray) (w : World) : Calls Tryz.prog 129 #[.agg #[.string k, .int .i64 ta, .int .i64 rp, .string wd]] w fun e w' => e = .returned (.bool (mayNt (k, ta, rp, wd))) ∧ Below w.heap.size w w' := by
  by_cases h0 : 1 ≤ (k.size : Int)
  · by_cases h1 : (k.size : Int) ≤ 32
    · by_cases h2 : 1 ≤ ta
      · by_cases h3 : ta ≤ 1099511627776
        · by_cases h4 : 1 ≤ rp
          · by_cases h5 : rp ≤ 5
            · by_cases h6 : (wd.size : Int) ≤ 64
              · have HR : Hid (mayNt (k, ta, rp, wd) = true) := mayNt_iff.2 ⟨by simp [mayK]; omega, ⟨h2, h3⟩, ⟨h4, h5⟩, by simp only; omega⟩
                go_enter Tryz.func129, Tryz.ntmps129
                go_wp2
                go_ret
                exact ⟨by rw [HR.out]; first | rfl | (simp; omega), bel1 _ _⟩
              · have HR : Hid (mayNt (k, ta, rp, wd) = false) := by
                  unfold Hid
                  rw [Bool.eq_false_iff]
                  intro h
                  have h := mayNt_iff.1 h
                  simp [mayK] at h
                  omega
                go_enter Tryz.func129, Tryz.ntmps129
                go_wp2
                go_ret
                exact ⟨by rw [HR.out]; first | rfl | (simp; omega), bel1 _ _⟩
            · have HR : Hid (mayNt (k, ta, rp, wd) = false) := by
                unfold Hid
                rw [Bool.eq_false_iff]
                intro h
                have h := mayNt_iff.1 h
                simp [mayK] at h
                omega
              go_enter Tryz.func129, Tryz.ntmps129
              go_wp2
              go_ret
              exact ⟨by rw [HR.out]; first | rfl | (simp; omega), bel1 _ _⟩
          · have HR : Hid (mayNt (k, ta, rp, wd) = false) := by
              unfold Hid
              rw [Bool.eq_false_iff]
              intro h
              have h := mayNt_iff.1 h
              simp [mayK] at h
              omega
            go_enter Tryz.func129, Tryz.ntmps129
            go_wp2
            go_ret
            exact ⟨by rw [HR.out]; first | rfl | (simp; omega), bel1 _ _⟩
        · have HR : Hid (mayNt (k, ta, rp, wd) = false) := by
            unfold Hid
            rw [Bool.eq_false_iff]
            intro h
            have h := mayNt_iff.1 h
            simp [mayK] at h
            omega
          go_enter Tryz.func129, Tryz.ntmps129
          go_wp2
          go_ret
          exact ⟨by rw [HR.out]; first | rfl | (simp; omega), bel1 _ _⟩
      · have HR : Hid (mayNt (k, ta, rp, wd) = false) := by
          unfold Hid
          rw [Bool.eq_false_iff]
          intro h
          have h := mayNt_iff.1 h
          simp [mayK] at h
          omega
        go_enter Tryz.func129, Tryz.ntmps129
        go_wp2
        go_ret
        exact ⟨by rw [HR.out]; first | rfl | (simp; omega), bel1 _ _⟩
    · have HR : Hid (mayNt (k, ta, rp, wd) = false) := by
        unfold Hid
        rw [Bool.eq_false_iff]
        intro h
        have h := mayNt_iff.1 h
        simp [mayK] at h
        omega
      go_enter Tryz.func129, Tryz.ntmps129
      go_wp2
      go_ret
      exact ⟨by rw [HR.out]; first | rfl | (simp; omega), bel1 _ _⟩
  · have HR : Hid (mayNt (k, ta, rp, wd) = false) := by
      unfold Hid
      rw [Bool.eq_false_iff]
      intro h
      have h := mayNt_iff.1 h
      simp [mayK] at h
      omega
    go_enter Tryz.func129, Tryz.ntmps129
    go_wp2
    go_ret
    exact ⟨by rw [HR.out]; first | rfl | (simp; omega), bel1 _ _⟩
set_option maxHeartbeats 4000000 in
theorem Check12_any (a : Option Addr) (n cap : Nat) (s : List Nt) (w : World) (hA : NN w a n s) : Calls Tryz.prog 56 #[.slice a n cap] w fun e w' => e = .returned (.int .i64 (chkN s)) ∧ Below w.heap.size w w' := by
  have HV := hide hA
  have hmx := hA.2.1
  have HLEN := hide hA.1
  unfold maxLen at hmx
  clear hA
  by_cases hbig : (4000 : Int) < (n : Int)
  · have HR : Hid (chkN s = 1) := by
      unfold Hid chkN
      rw [if_neg]
      intro h
      have := (mayG_iff.1 h).2.2
      rw [HLEN.out] at this
      omega
    go_enter Tryz.func56, Tryz.ntmps56
    go_wp2
    go_ret
    exact ⟨by simp [HR.out], Below.refl _ _⟩
  · go_enter Tryz.func56, Tryz.ntmps56
    go_wp2
    go_loopw [10] (fun i wr => ∃ k : Nat, k ≤ n ∧ i = .int .i64 k ∧ Hid ((s.take k).all mayNt = true ∧ SrtG kN (s.take k)) ∧ Hid (Below w.heap.size w wr)) (fun i _ => n - (intOf i).toNat)
    case atStart => exact ⟨0, by omega, rfl, (show _ ∧ _ by simp [SrtG]), Below.refl _ _⟩
    case round =>
      obtain ⟨k0, hk, rfl, HF, HB⟩ := hrel
      by_cases hlt : k0 < n
      · obtain ⟨b, off, rfl⟩ := HV.out.addr (by omega)
        obtain ⟨k, ta, rp, wd, hx, c0, c1, c2, c3⟩ := (HV.out.below HB.out).at k0 hlt
        have hk0 : (0 : Int) ≤ (k0 : Int) := by omega
        have hk1 : (k0 : Int) < (n : Int) := by omega
        have HX := hide hx
        clear hx
        go_upto_region 6 with fail
        have HB2 : Hid (Below w.heap.size w (wr.alloc (.cells #[.string k, .int .i64 ta, .int .i64 rp, .string wd] 111))) := HB.out.alloc HB.out.size _
        have d0 := cell_new wr #[.string k, .int .i64 ta, .int .i64 rp, .string wd] 111 _ rfl 0 _ rfl
        have d1 := cell_new wr #[.string k, .int .i64 ta, .int .i64 rp, .string wd] 111 _ rfl 1 _ rfl
        have d2 := cell_new wr #[.string k, .int .i64 ta, .int .i64 rp, .string wd] 111 _ rfl 2 _ rfl
        have d3 := cell_new wr #[.string k, .int .i64 ta, .int .i64 rp, .string wd] 111 _ rfl 3 _ rfl
        generalize hgb : wr.heap.size = gb at *
        have HV2 := hide (HV.out.below HB2.out)
        clear c0 c1 c2 c3 HB
        generalize wr.alloc (.cells #[.string k, .int .i64 ta, .int .i64 rp, .string wd] 111) = u at *
        clear hgb
        rcases hm : mayNt (k, ta, rp, wd) with _ | _
        · have HM := hide hm
          have HNO : Hid (chkN s = 1) := chkN_no (mayG_no HX.out hm)
          clear hm
          refine wp_region_held_drew (S := fun W => Below u.heap.size u W) (by kernel_rfl) ((Below.refl _ u).drew) (fun hS0 => ?_)
          refine tkI 0 15 ?v1 rfl rfl hS0 ?hy1 ?_
          case hy1 => (intro W hW; have e0 := bcell hW d0; have e1 := bcell hW d1; have e2 := bcell hW d2; have e3 := bcell hW d3; clear hW; go_simp; try rfl)
          simp only [ly]
          refine wpAnyH_ready (rs := [1]) (by kernel_rfl) (by simp) ?_
          refine AllReadyH.cons rfl (fun K hK => ?_) AllReadyH.nil
          go_simp
          refine (note12_any k ta rp wd _).mono ?_
          rintro e w' ⟨rfl, hb⟩
          rw [show mayNt (k, ta, rp, wd) = false from HM.out]
          refine hK.out _ _ ?hs2 (fun hS1 => ?_)
          case hs2 => exact bel_next hS0 hb
          clear hK K hb
          try simp only [ly]
          refine tkI 2 17 ?v3 rfl rfl hS1 ?hy3 ?_
          case hy3 => (intro W hW; clear hW; go_simp; try rfl)
          simp only [ly]
          refine tkI 3 18 ?v4 rfl rfl hS1 ?hy4 ?_
          case hy4 => (intro W hW; clear hW; go_simp; try rfl)
          simp only [ly]
          refine tkN 4 19 rfl rfl hS1 ?_
          simp only [ly]
          refine tkN 5 20 rfl rfl hS1 ?_
          simp only [ly]
          refine tkN 6 21 rfl rfl hS1 ?_
          simp only [ly]
          refine tkN 7 22 rfl rfl hS1 ?_
          simp only [ly]
          refine tkN 8 23 rfl rfl hS1 ?_
          simp only [ly]
          refine tkN 9 24 rfl rfl hS1 ?_
          simp only [ly]
          refine tkN 10 25 rfl rfl hS1 ?_
          simp only [ly]
          refine tkN 11 26 rfl rfl hS1 ?_
          simp only [ly]
          refine tkN 12 27 rfl rfl hS1 ?_
          simp only [ly]
          refine tkN 13 28 rfl rfl hS1 ?_
          simp only [ly]
          refine tkN 14 29 rfl rfl hS1 ?_
          simp only [ly]
          refine tkN 15 30 rfl rfl hS1 ?_
          simp only [ly]
          refine tkN 16 31 rfl rfl hS1 ?_
          simp only [ly]
          refine tkI 17 32 ?v5 rfl rfl hS1 ?hy5 ?_
          case hy5 => (intro W hW; clear hW; go_simp; try rfl)
          simp only [ly]
          refine wpAnyH_done (by kernel_rfl) ?_ _
          go_wp2
          go_ret
          exact ⟨by simp [HNO.out], bel_next HB2.out hS1⟩
        · have HM := hide hm
          clear hm
          rcases k0 with _ | j
          · have HF2 : Hid ((s.take (0 + 1)).all mayNt = true ∧ SrtG kN (s.take (0 + 1))) := stepG HX.out HF.out HM.out (fun j c h => by omega)
            simp only [Nat.zero_add] at HF2
            refine wp_region_held_drew (S := fun W => Below u.heap.size u W) (by kernel_rfl) ((Below.refl _ u).drew) (fun hS0 => ?_)
            refine tkI 0 15 ?v6 rfl rfl hS0 ?hy6 ?_
            case hy6 => (intro W hW; have e0 := bcell hW d0; have e1 := bcell hW d1; have e2 := bcell hW d2; have e3 := bcell hW d3; clear hW; go_simp; try rfl)
            simp only [ly]
            refine wpAnyH_ready (rs := [1]) (by kernel_rfl) (by simp) ?_
            refine AllReadyH.cons rfl (fun K hK => ?_) AllReadyH.nil
            go_simp
            refine (note12_any k ta rp wd _).mono ?_
            rintro e w' ⟨rfl, hb⟩
            rw [show mayNt (k, ta, rp, wd) = true from HM.out]
            refine hK.out _ _ ?hs7 (fun hS1 => ?_)
            case hs7 => exact bel_next hS0 hb
            clear hK K hb
            try simp only [ly]
            refine tkI 2 17 ?v8 rfl rfl hS1 ?hy8 ?_
            case hy8 => (intro W hW; clear hW; go_simp; try rfl)
            simp only [ly]
            refine tkI 3 18 ?v9 rfl rfl hS1 ?hy9 ?_
            case hy9 => (intro W hW; clear hW; go_simp; try rfl)
            simp only [ly]
            refine tkI 4 19 ?v10 rfl rfl hS1 ?hy10 ?_
            case hy10 => (intro W hW; clear hW; go_simp; try rfl)
            simp only [ly]
            refine tkI 5 20 ?v11 rfl rfl hS1 ?hy11 ?_
            case hy11 => (intro W hW; clear hW; go_simp; try rfl)
            simp only [ly]
            refine tkI 6 21 ?v12 rfl rfl hS1 ?hy12 ?_
            case hy12 => (intro W hW; clear hW; go_simp; try rfl)
            simp only [ly]
            refine tkN 7 22 rfl rfl hS1 ?_
            simp only [ly]
            refine tkN 8 23 rfl rfl hS1 ?_
            simp only [ly]
            refine tkN 9 24 rfl rfl hS1 ?_
            simp only [ly]
            refine tkN 10 25 rfl rfl hS1 ?_
            simp only [ly]
            refine tkN 11 26 rfl rfl hS1 ?_
            simp only [ly]
            refine tkN 12 27 rfl rfl hS1 ?_
            simp only [ly]
            refine tkN 13 28 rfl rfl hS1 ?_
            simp only [ly]
            refine tkN 14 29 rfl rfl hS1 ?_
            simp only [ly]
            refine tkN 15 30 rfl rfl hS1 ?_
            simp only [ly]
            refine tkI 16 31 ?v13 rfl rfl hS1 ?hy13 ?_
            case hy13 => (intro W hW; clear hW; go_simp; try rfl)
            simp only [ly]
            refine tkI 17 32 ?v14 rfl rfl hS1 ?hy14 ?_
            case hy14 => (intro W hW; clear hW; go_simp; try rfl)
            simp only [ly]
            refine wpAnyH_done (by kernel_rfl) ?_ _
            go_wp2
            go_roundw
            case rel => exact ⟨1, by omega, by go_num, HF2, (show Hid _ from bel_next HB2.out hS1)⟩
            case measure => simp [intOf]; omega
          · obtain ⟨kp, tp, pp, wp_, hp, p0, _, _, _⟩ := HV2.out.at j (by omega)
            have HP := hide hp
            clear hp
            have hwj := wrapT (show j ≤ 9223372036854775807 by omega)
            have hj0 : ((j : Int)) + 1 < (n : Int) := by omega
            have hj1 : (j : Int) < (n : Int) := by omega
            have hj2 : (0 : Int) ≤ (j : Int) := by omega
            rcases hl : Op.bytesLess kp.toList k.toList with _ | _
            · have HNO : Hid (chkN s = 1) := chkN_no (mayG_less HP.out HX.out hl)
              refine wp_region_held_drew (S := fun W => Below u.heap.size u W) (by kernel_rfl) ((Below.refl _ u).drew) (fun hS0 => ?_)
              refine tkI 0 15 ?v33 rfl rfl hS0 ?hy33 ?_
              case hy33 => (intro W hW; have e0 := bcell hW d0; have e1 := bcell hW d1; have e2 := bcell hW d2; have e3 := bcell hW d3; have e4 := bcell hW p0; clear hW; go_simp; try rfl)
              simp only [ly]
              refine wpAnyH_ready (rs := [1]) (by kernel_rfl) (by simp) ?_
              refine AllReadyH.cons rfl (fun K hK => ?_) AllReadyH.nil
              go_simp
              refine (note12_any k ta rp wd _).mono ?_
              rintro e w' ⟨rfl, hb⟩
              rw [show mayNt (k, ta, rp, wd) = true from HM.out]
              refine hK.out _ _ ?hs34 (fun hS1 => ?_)
              case hs34 => exact bel_next hS0 hb
              clear hK K hb
              try simp only [ly]
              refine tkI 2 17 ?v35 rfl rfl hS1 ?hy35 ?_
              case hy35 => (intro W hW; clear hW; go_simp; try rfl)
              simp only [ly]
              refine tkI 3 18 ?v36 rfl rfl hS1 ?hy36 ?_
              case hy36 => (intro W hW; clear hW; go_simp; try rfl)
              simp only [ly]
              refine tkI 4 19 ?v37 rfl rfl hS1 ?hy37 ?_
              case hy37 => (intro W hW; clear hW; go_simp; try rfl)
              simp only [ly]
              refine tkI 5 20 ?v38 rfl rfl hS1 ?hy38 ?_
              case hy38 => (intro W hW; clear hW; go_simp; try rfl)
              simp only [ly]
              refine tkI 6 21 ?v39 rfl rfl hS1 ?hy39 ?_
              case hy39 => (intro W hW; clear hW; go_simp; try rfl)
              simp only [ly]
              refine tkI 7 22 ?v40 rfl rfl hS1 ?hy40 ?_
              case hy40 => (intro W hW; clear hW; go_simp; try rfl)
              simp only [ly]
              refine tkI 8 23 ?v41 rfl rfl hS1 ?hy41 ?_
              case hy41 => (intro W hW; clear hW; go_simp; try rfl)
              simp only [ly]
              refine tkI 9 24 ?v42 rfl rfl hS1 ?hy42 ?_
              case hy42 => (intro W hW; clear hW; go_simp; try rfl)
              simp only [ly]
              refine tkI 10 25 ?v43 rfl rfl hS1 ?hy43 ?_
              case hy43 => (intro W hW; clear hW; go_simp; try rfl)
              simp only [ly]
              refine tkI 11 26 ?v44 rfl rfl hS1 ?hy44 ?_
              case hy44 => (intro W hW; clear hW; go_simp; try rfl)
              simp only [ly]
              refine tkI 12 27 ?v45 rfl rfl hS1 ?hy45 ?_
              case hy45 => (intro W hW; have e0 := bcell hW d0; have e1 := bcell hW d1; have e2 := bcell hW d2; have e3 := bcell hW d3; have e4 := bcell hW p0; clear hW; go_simp; try rfl)
              simp only [ly]
              refine tkI 13 28 ?v46 rfl rfl hS1 ?hy46 ?_
              case hy46 => (intro W hW; clear hW; go_simp; try rfl)
              simp only [ly]
              refine tkI 14 29 ?v47 rfl rfl hS1 ?hy47 ?_
              case hy47 => (intro W hW; have e0 := bcell hW d0; have e1 := bcell hW d1; have e2 := bcell hW d2; have e3 := bcell hW d3; have e4 := bcell hW p0; clear hW; go_simp; try rfl)
              simp only [ly]
              refine tkI 15 30 ?v48 rfl rfl hS1 ?hy48 ?_
              case hy48 => (intro W hW; clear hW; go_simp; try rfl)
              simp only [ly]
              refine tkI 16 31 ?v49 rfl rfl hS1 ?hy49 ?_
              case hy49 => (intro W hW; clear hW; go_simp; try rfl)
              simp only [ly]
              refine tkI 17 32 ?v50 rfl rfl hS1 ?hy50 ?_
              case hy50 => (intro W hW; clear hW; go_simp; try rfl)
              simp only [ly]
              refine wpAnyH_done (by kernel_rfl) ?_ _
              go_wp2
              go_ret
              exact ⟨by simp [HNO.out], bel_next HB2.out hS1⟩
            · have HF2 : Hid ((s.take (j + 1 + 1)).all mayNt = true ∧ SrtG kN (s.take (j + 1 + 1))) := stepGS HX.out HP.out HF.out HM.out hl
              refine wp_region_held_drew (S := fun W => Below u.heap.size u W) (by kernel_rfl) ((Below.refl _ u).drew) (fun hS0 => ?_)
              refine tkI 0 15 ?v15 rfl rfl hS0 ?hy15 ?_
              case hy15 => (intro W hW; have e0 := bcell hW d0; have e1 := bcell hW d1; have e2 := bcell hW d2; have e3 := bcell hW d3; have e4 := bcell hW p0; clear hW; go_simp; try rfl)
              simp only [ly]
              refine wpAnyH_ready (rs := [1]) (by kernel_rfl) (by simp) ?_
              refine AllReadyH.cons rfl (fun K hK => ?_) AllReadyH.nil
              go_simp
              refine (note12_any k ta rp wd _).mono ?_
              rintro e w' ⟨rfl, hb⟩
              rw [show mayNt (k, ta, rp, wd) = true from HM.out]
              refine hK.out _ _ ?hs16 (fun hS1 => ?_)
              case hs16 => exact bel_next hS0 hb
              clear hK K hb
              try simp only [ly]
              refine tkI 2 17 ?v17 rfl rfl hS1 ?hy17 ?_
              case hy17 => (intro W hW; clear hW; go_simp; try rfl)
              simp only [ly]
              refine tkI 3 18 ?v18 rfl rfl hS1 ?hy18 ?_
              case hy18 => (intro W hW; clear hW; go_simp; try rfl)
              simp only [ly]
              refine tkI 4 19 ?v19 rfl rfl hS1 ?hy19 ?_
              case hy19 => (intro W hW; clear hW; go_simp; try rfl)
              simp only [ly]
              refine tkI 5 20 ?v20 rfl rfl hS1 ?hy20 ?_
              case hy20 => (intro W hW; clear hW; go_simp; try rfl)
              simp only [ly]
              refine tkI 6 21 ?v21 rfl rfl hS1 ?hy21 ?_
              case hy21 => (intro W hW; clear hW; go_simp; try rfl)
              simp only [ly]
              refine tkI 7 22 ?v22 rfl rfl hS1 ?hy22 ?_
              case hy22 => (intro W hW; clear hW; go_simp; try rfl)
              simp only [ly]
              refine tkI 8 23 ?v23 rfl rfl hS1 ?hy23 ?_
              case hy23 => (intro W hW; clear hW; go_simp; try rfl)
              simp only [ly]
              refine tkI 9 24 ?v24 rfl rfl hS1 ?hy24 ?_
              case hy24 => (intro W hW; clear hW; go_simp; try rfl)
              simp only [ly]
              refine tkI 10 25 ?v25 rfl rfl hS1 ?hy25 ?_
              case hy25 => (intro W hW; clear hW; go_simp; try rfl)
              simp only [ly]
              refine tkI 11 26 ?v26 rfl rfl hS1 ?hy26 ?_
              case hy26 => (intro W hW; clear hW; go_simp; try rfl)
              simp only [ly]
              refine tkI 12 27 ?v27 rfl rfl hS1 ?hy27 ?_
              case hy27 => (intro W hW; have e0 := bcell hW d0; have e1 := bcell hW d1; have e2 := bcell hW d2; have e3 := bcell hW d3; have e4 := bcell hW p0; clear hW; go_simp; try rfl)
              simp only [ly]
              refine tkI 13 28 ?v28 rfl rfl hS1 ?hy28 ?_
              case hy28 => (intro W hW; clear hW; go_simp; try rfl)
              simp only [ly]
              refine tkI 14 29 ?v29 rfl rfl hS1 ?hy29 ?_
              case hy29 => (intro W hW; have e0 := bcell hW d0; have e1 := bcell hW d1; have e2 := bcell hW d2; have e3 := bcell hW d3; have e4 := bcell hW p0; clear hW; go_simp; try rfl)
              simp only [ly]
              refine tkI 15 30 ?v30 rfl rfl hS1 ?hy30 ?_
              case hy30 => (intro W hW; clear hW; go_simp; try rfl)
              simp only [ly]
              refine tkI 16 31 ?v31 rfl rfl hS1 ?hy31 ?_
              case hy31 => (intro W hW; clear hW; go_simp; try rfl)
              simp only [ly]
              refine tkI 17 32 ?v32 rfl rfl hS1 ?hy32 ?_
              case hy32 => (intro W hW; clear hW; go_simp; try rfl)
              simp only [ly]
              refine wpAnyH_done (by kernel_rfl) ?_ _
              go_wp2
              go_roundw
              case rel => exact ⟨j + 1 + 1, by omega, by go_num, HF2, (show Hid _ from bel_next HB2.out hS1)⟩
              case measure => simp [intOf]; omega
      · obtain rfl : k0 = n := by omega
        have HR : Hid (chkN s = 0) := by
          have h := HF.out
          rw [← HLEN.out, List.take_length] at h
          refine chkN_yes (mayG_iff.2 ⟨by simpa using h.1, h.2, by rw [HLEN.out]; omega⟩)
        clear HF
        go_wp2
        go_ret
        exact ⟨by simp [HR.out], HB.out⟩
end Go.Proofs.YtkbbegbpkndebaaGreat

