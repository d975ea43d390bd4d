/- Texts of this claim, joined: A3, KC. -/
import Derived.Test.YtkbbegbpkndebaaGreatJ3
import Derived.Test.YtkbbegbpkndebaaGreatJ6
/- What the program checks of a set (layer 8), 2. -/
namespace Go.Proofs.YtkbbegbpkndebaaGreat
open Go.RowKit Go.Lib
set_option linter.unusedVariables false
set_option maxHeartbeats 1000000 in
theorem mayBeEntry_any (k : ByteArray) (pl : Option Addr) (nl cl : Nat) (pd : Option Addr) (nd cd : Nat) (l m : List Dot) (w : World) (hl : DS w pl nl l) (hm : DS w pd nd m) : Calls Tryz.prog 179 #[.agg #[.string k, .slice pl nl cl, .slice pd nd cd]] w fun e w' => e = .returned (.bool (mayN (k, l, m))) ∧ Below w.heap.size w w' := by
  have HL := hide hl
  have HD : Hid (nd = 0 ↔ m = []) := by
    have := hm.1
    constructor
    · intro h; exact List.eq_nil_of_length_eq_zero (by omega)
    · intro h; rw [h] at this; exact this.symm
  clear hl hm
  rcases h1 : mayK k with _ | _
  · have H1 := hide h1
    have HR : Hid (mayN (k, l, m) = false) := by unfold Hid mayN; simp [h1]
    clear h1
    go_enter Tryz.func179, Tryz.ntmps179
    go_wp2_with (go_at_call 193; refine (mayBeKey_any k _).mono ?_; rintro e w1 ⟨rfl, hb1⟩; rw [H1.out])
    go_ret
    exact ⟨by simp [HR.out], bel_next (bel1 _ _) hb1⟩
  · have H1 := hide h1
    rcases h2 : (decide (l ≠ []) && rowsB l) with _ | _
    · have H2 := hide h2
      have HR : Hid (mayN (k, l, m) = false) := by
        unfold Hid mayN
        simp only [Bool.and_eq_false_iff, decide_eq_false_iff_not] at h2 ⊢
        rcases h2 with h2 | h2
        · exact .inl (.inl (.inr h2))
        · exact .inr h2
      clear h1 h2
      go_enter Tryz.func179, Tryz.ntmps179
      go_wp2_with (first | (go_at_call 193; refine (mayBeKey_any k _).mono ?_; rintro e w1 ⟨rfl, hb1⟩; rw [H1.out]; have d1 := bcell hb1 (cell_new w #[.string k, .slice pl nl cl, .slice pd nd cd] 125 _ rfl 1 _ rfl); have BB := hide (bel_next (bel1 _ _) hb1); clear hb1) | (go_at_call 210; refine (mayBeLive_any pl nl cl l _ (HL.out.below BB.out)).mono ?_; rintro e w2 ⟨rfl, hb2⟩; rw [H2.out]))
      go_ret
      exact ⟨by simp [HR.out], bel_next BB.out hb2⟩
    · have H2 := hide h2
      have HR : Hid (mayN (k, l, m) = decide (nd = 0)) := by
        unfold Hid mayN
        simp only [Bool.and_eq_true, decide_eq_true_eq] at h2
        simp [h1, h2.1, h2.2, HD.out]
      clear h1 h2
      go_enter Tryz.func179, Tryz.ntmps179
      go_wp2_with (first | (go_at_call 193; refine (mayBeKey_any k _).mono ?_; rintro e w1 ⟨rfl, hb1⟩; rw [H1.out]; have d1 := bcell hb1 (cell_new w #[.string k, .slice pl nl cl, .slice pd nd cd] 125 _ rfl 1 _ rfl); have d2 := bcell hb1 (cell_new w #[.string k, .slice pl nl cl, .slice pd nd cd] 125 _ rfl 2 _ rfl); have BB := hide (bel_next (bel1 _ _) hb1); clear hb1) | (go_at_call 210; refine (mayBeLive_any pl nl cl l _ (HL.out.below BB.out)).mono ?_; rintro e w2 ⟨rfl, hb2⟩; rw [H2.out]; have d3 := bcell hb2 d2; have B3 := hide (bel_next BB.out hb2); clear hb2 d1 d2))
      go_ret
      exact ⟨by rw [HR.out]; by_cases hz : nd = 0 <;> simp [hz], B3.out⟩
set_option maxHeartbeats 4000000 in
theorem Check_any (a : Option Addr) (n cap : Nat) (s : List En) (w : World) (hA : NSS w a n s) : Calls Tryz.prog 126 #[.slice a n cap] w fun e w' => e = .returned (.int .i64 (chkS s)) ∧ Below w.heap.size w w' := by
  have HV := hide hA
  have hmx := hA.max
  have HLEN := hide hA.len
  unfold maxLen at hmx
  clear hA
  by_cases hbig : (4000 : Int) < (n : Int)
  · have HR : Hid (chkS s = 1) := by
      unfold Hid chkS
      rw [if_neg]
      intro h
      have := (mayS_iff.1 h).2.2
      rw [HLEN.out] at this
      omega
    go_enter Tryz.func126, Tryz.ntmps126
    go_wp2
    go_ret
    exact ⟨by simp [HR.out], Below.refl _ _⟩
  · go_enter Tryz.func126, Tryz.ntmps126
    go_wp2
    go_loopw [10] (fun i wr => ∃ k : Nat, k ≤ n ∧ i = .int .i64 k ∧ Hid ((s.take k).all mayN = true ∧ SrtK (s.take k)) ∧ Hid (Below w.heap.size w wr)) (fun i _ => n - (intOf i).toNat)
    case atStart => exact ⟨0, by omega, rfl, (show _ ∧ _ by simp [SrtK]), Below.refl _ _⟩
    case round =>
      obtain ⟨k0, hk, rfl, HF, HB⟩ := hrel
      by_cases hlt : k0 < n
      · obtain ⟨b, off, rfl⟩ := HV.out.addr (by omega)
        obtain ⟨k, pl, nl, cl, pd, nd, cd, ll, mm, hx, c0, c1, c2, hdl, hcl, hdd, hcd⟩ := (HV.out.below HB.out).at k0 hlt
        have hk0 : (0 : Int) ≤ (k0 : Int) := by omega
        have hk1 : (k0 : Int) < (n : Int) := by omega
        have HX := hide hx
        clear hx hcl hcd
        go_upto_region 6 with fail
        have HB2 : Hid (Below w.heap.size w (wr.alloc (.cells #[.string k, .slice pl nl cl, .slice pd nd cd] 125))) := HB.out.alloc HB.out.size _
        have d0 := cell_new wr #[.string k, .slice pl nl cl, .slice pd nd cd] 125 _ rfl 0 _ rfl
        have d1 := cell_new wr #[.string k, .slice pl nl cl, .slice pd nd cd] 125 _ rfl 1 _ rfl
        have d2 := cell_new wr #[.string k, .slice pl nl cl, .slice pd nd cd] 125 _ rfl 2 _ rfl
        have HL := hide (hdl.below (bel1 wr (.cells #[.string k, .slice pl nl cl, .slice pd nd cd] 125)))
        have HD := hide (hdd.below (bel1 wr (.cells #[.string k, .slice pl nl cl, .slice pd nd cd] 125)))
        generalize hgb : wr.heap.size = gb at *
        have HV2 := hide (HV.out.below HB2.out)
        clear c0 c1 c2 HB hdl hdd
        generalize wr.alloc (.cells #[.string k, .slice pl nl cl, .slice pd nd cd] 125) = u at *
        clear hgb
        rcases hm : mayN (k, ll, mm) with _ | _
        · have HM := hide hm
          have HNO : Hid (chkS s = 1) := by unfold Hid chkS; rw [set_may HX.out hm]; rfl
          clear hm
          refine wp_region_held_drew (S := fun W => Below u.heap.size u W) (by kernel_rfl) ((Below.refl _ u).drew) (fun hS0 => ?_)
          refine tkI 0 15 ?v1 rfl rfl hS0 ?hy1 ?_
          case hy1 => (intro W hW; have e0 := bcell hW d0; have e1 := bcell hW d1; have e2 := bcell hW d2; clear hW; go_simp; try rfl)
          simp only [ly]
          refine wpAnyH_ready (rs := [1]) (by kernel_rfl) (by simp) ?_
          refine AllReadyH.cons rfl (fun K hK => ?_) AllReadyH.nil
          go_simp
          refine (mayBeEntry_any k pl nl cl pd nd cd ll mm _ (HL.out.below hS0) (HD.out.below hS0)).mono ?_
          rintro e w' ⟨rfl, hb⟩
          rw [show mayN (k, ll, mm) = false from HM.out]
          refine hK.out _ _ ?hs2 (fun hS1 => ?_)
          case hs2 => exact bel_next hS0 hb
          clear hK K hb
          try simp only [ly]
          refine tkI 2 17 ?v3 rfl rfl hS1 ?hy3 ?_
          case hy3 => (intro W hW; clear hW; go_simp; try rfl)
          simp only [ly]
          refine tkI 3 18 ?v4 rfl rfl hS1 ?hy4 ?_
          case hy4 => (intro W hW; clear hW; go_simp; try rfl)
          simp only [ly]
          refine tkN 4 19 rfl rfl hS1 ?_
          simp only [ly]
          refine tkN 5 20 rfl rfl hS1 ?_
          simp only [ly]
          refine tkN 6 21 rfl rfl hS1 ?_
          simp only [ly]
          refine tkN 7 22 rfl rfl hS1 ?_
          simp only [ly]
          refine tkN 8 23 rfl rfl hS1 ?_
          simp only [ly]
          refine tkN 9 24 rfl rfl hS1 ?_
          simp only [ly]
          refine tkN 10 25 rfl rfl hS1 ?_
          simp only [ly]
          refine tkN 11 26 rfl rfl hS1 ?_
          simp only [ly]
          refine tkN 12 27 rfl rfl hS1 ?_
          simp only [ly]
          refine tkN 13 28 rfl rfl hS1 ?_
          simp only [ly]
          refine tkN 14 29 rfl rfl hS1 ?_
          simp only [ly]
          refine tkN 15 30 rfl rfl hS1 ?_
          simp only [ly]
          refine tkN 16 31 rfl rfl hS1 ?_
          simp only [ly]
          refine tkI 17 32 ?v5 rfl rfl hS1 ?hy5 ?_
          case hy5 => (intro W hW; clear hW; go_simp; try rfl)
          simp only [ly]
          refine wpAnyH_done (by kernel_rfl) ?_ _
          go_wp2
          go_ret
          exact ⟨by rw [HNO.out]; simp, bel_next HB2.out hS1⟩
        · have HM := hide hm
          clear hm
          rcases k0 with _ | j
          · have HF2 : Hid ((s.take (0 + 1)).all mayN = true ∧ SrtK (s.take (0 + 1))) := set_step HX.out HF.out HM.out (fun j c h => by omega)
            simp only [Nat.zero_add] at HF2
            refine wp_region_held_drew (S := fun W => Below u.heap.size u W) (by kernel_rfl) ((Below.refl _ u).drew) (fun hS0 => ?_)
            refine tkI 0 15 ?v6 rfl rfl hS0 ?hy6 ?_
            case hy6 => (intro W hW; have e0 := bcell hW d0; have e1 := bcell hW d1; have e2 := bcell hW d2; clear hW; go_simp; try rfl)
            simp only [ly]
            refine wpAnyH_ready (rs := [1]) (by kernel_rfl) (by simp) ?_
            refine AllReadyH.cons rfl (fun K hK => ?_) AllReadyH.nil
            go_simp
            refine (mayBeEntry_any k pl nl cl pd nd cd ll mm _ (HL.out.below hS0) (HD.out.below hS0)).mono ?_
            rintro e w' ⟨rfl, hb⟩
            rw [show mayN (k, ll, mm) = true from HM.out]
            refine hK.out _ _ ?hs7 (fun hS1 => ?_)
            case hs7 => exact bel_next hS0 hb
            clear hK K hb
            try simp only [ly]
            refine tkI 2 17 ?v8 rfl rfl hS1 ?hy8 ?_
            case hy8 => (intro W hW; clear hW; go_simp; try rfl)
            simp only [ly]
            refine tkI 3 18 ?v9 rfl rfl hS1 ?hy9 ?_
            case hy9 => (intro W hW; clear hW; go_simp; try rfl)
            simp only [ly]
            refine tkI 4 19 ?v10 rfl rfl hS1 ?hy10 ?_
            case hy10 => (intro W hW; clear hW; go_simp; try rfl)
            simp only [ly]
            refine tkI 5 20 ?v11 rfl rfl hS1 ?hy11 ?_
            case hy11 => (intro W hW; clear hW; go_simp; try rfl)
            simp only [ly]
            refine tkI 6 21 ?v12 rfl rfl hS1 ?hy12 ?_
            case hy12 => (intro W hW; clear hW; go_simp; try rfl)
            simp only [ly]
            refine tkN 7 22 rfl rfl hS1 ?_
            simp only [ly]
            refine tkN 8 23 rfl rfl hS1 ?_
            simp only [ly]
            refine tkN 9 24 rfl rfl hS1 ?_
            simp only [ly]
            refine tkN 10 25 rfl rfl hS1 ?_
            simp only [ly]
            refine tkN 11 26 rfl rfl hS1 ?_
            simp only [ly]
            refine tkN 12 27 rfl rfl hS1 ?_
            simp only [ly]
            refine tkN 13 28 rfl rfl hS1 ?_
            simp only [ly]
            refine tkN 14 29 rfl rfl hS1 ?_
            simp only [ly]
            refine tkN 15 30 rfl rfl hS1 ?_
            simp only [ly]
            refine tkI 16 31 ?v13 rfl rfl hS1 ?hy13 ?_
            case hy13 => (intro W hW; clear hW; go_simp; try rfl)
            simp only [ly]
            refine tkI 17 32 ?v14 rfl rfl hS1 ?hy14 ?_
            case hy14 => (intro W hW; clear hW; go_simp; try rfl)
            simp only [ly]
            refine wpAnyH_done (by kernel_rfl) ?_ _
            go_wp2
            go_roundw
            case rel => exact ⟨1, by omega, by go_num, HF2, (show Hid _ from bel_next HB2.out hS1)⟩
            case measure => simp [intOf]; omega
          · obtain ⟨kp, pl', nl', cl', pd', nd', cd', ll', mm', hp, p0, _, _, _, _, _, _⟩ := HV2.out.at j (by omega)
            have HP := hide hp
            clear hp
            have hwj := wrapN (show j ≤ 9223372036854775807 by omega)
            have hj0 : ((j : Int)) + 1 < (n : Int) := by omega
            have hj1 : (j : Int) < (n : Int) := by omega
            have hj2 : (0 : Int) ≤ (j : Int) := by omega
            rcases hl : Op.bytesLess kp.toList k.toList with _ | _
            · have HNO : Hid (chkS s = 1) := by unfold Hid chkS; rw [set_less HP.out HX.out hl]; rfl
              refine wp_region_held_drew (S := fun W => Below u.heap.size u W) (by kernel_rfl) ((Below.refl _ u).drew) (fun hS0 => ?_)
              refine tkI 0 15 ?v33 rfl rfl hS0 ?hy33 ?_
              case hy33 => (intro W hW; have e0 := bcell hW d0; have e1 := bcell hW d1; have e2 := bcell hW d2; have e3 := bcell hW p0; clear hW; go_simp; try rfl)
              simp only [ly]
              refine wpAnyH_ready (rs := [1]) (by kernel_rfl) (by simp) ?_
              refine AllReadyH.cons rfl (fun K hK => ?_) AllReadyH.nil
              go_simp
              refine (mayBeEntry_any k pl nl cl pd nd cd ll mm _ (HL.out.below hS0) (HD.out.below hS0)).mono ?_
              rintro e w' ⟨rfl, hb⟩
              rw [show mayN (k, ll, mm) = true from HM.out]
              refine hK.out _ _ ?hs34 (fun hS1 => ?_)
              case hs34 => exact bel_next hS0 hb
              clear hK K hb
              try simp only [ly]
              refine tkI 2 17 ?v35 rfl rfl hS1 ?hy35 ?_
              case hy35 => (intro W hW; clear hW; go_simp; try rfl)
              simp only [ly]
              refine tkI 3 18 ?v36 rfl rfl hS1 ?hy36 ?_
              case hy36 => (intro W hW; clear hW; go_simp; try rfl)
              simp only [ly]
              refine tkI 4 19 ?v37 rfl rfl hS1 ?hy37 ?_
              case hy37 => (intro W hW; clear hW; go_simp; try rfl)
              simp only [ly]
              refine tkI 5 20 ?v38 rfl rfl hS1 ?hy38 ?_
              case hy38 => (intro W hW; clear hW; go_simp; try rfl)
              simp only [ly]
              refine tkI 6 21 ?v39 rfl rfl hS1 ?hy39 ?_
              case hy39 => (intro W hW; clear hW; go_simp; try rfl)
              simp only [ly]
              refine tkI 7 22 ?v40 rfl rfl hS1 ?hy40 ?_
              case hy40 => (intro W hW; clear hW; go_simp; try rfl)
              simp only [ly]
              refine tkI 8 23 ?v41 rfl rfl hS1 ?hy41 ?_
              case hy41 => (intro W hW; clear hW; go_simp; try rfl)
              simp only [ly]
              refine tkI 9 24 ?v42 rfl rfl hS1 ?hy42 ?_
              case hy42 => (intro W hW; clear hW; go_simp; try rfl)
              simp only [ly]
              refine tkI 10 25 ?v43 rfl rfl hS1 ?hy43 ?_
              case hy43 => (intro W hW; clear hW; go_simp; try rfl)
              simp only [ly]
              refine tkI 11 26 ?v44 rfl rfl hS1 ?hy44 ?_
              case hy44 => (intro W hW; clear hW; go_simp; try rfl)
              simp only [ly]
              refine tkI 12 27 ?v45 rfl rfl hS1 ?hy45 ?_
              case hy45 => (intro W hW; have e0 := bcell hW d0; have e1 := bcell hW d1; have e2 := bcell hW d2; have e3 := bcell hW p0; clear hW; go_simp; try rfl)
              simp only [ly]
              refine tkI 13 28 ?v46 rfl rfl hS1 ?hy46 ?_
              case hy46 => (intro W hW; clear hW; go_simp; try rfl)
              simp only [ly]
              refine tkI 14 29 ?v47 rfl rfl hS1 ?hy47 ?_
              case hy47 => (intro W hW; have e0 := bcell hW d0; have e1 := bcell hW d1; have e2 := bcell hW d2; have e3 := bcell hW p0; clear hW; go_simp; try rfl)
              simp only [ly]
              refine tkI 15 30 ?v48 rfl rfl hS1 ?hy48 ?_
              case hy48 => (intro W hW; clear hW; go_simp; try rfl)
              simp only [ly]
              refine tkI 16 31 ?v49 rfl rfl hS1 ?hy49 ?_
              case hy49 => (intro W hW; clear hW; go_simp; try rfl)
              simp only [ly]
              refine tkI 17 32 ?v50 rfl rfl hS1 ?hy50 ?_
              case hy50 => (intro W hW; clear hW; go_simp; try rfl)
              simp only [ly]
              refine wpAnyH_done (by kernel_rfl) ?_ _
              go_wp2
              go_ret
              exact ⟨by rw [HNO.out]; simp, bel_next HB2.out hS1⟩
            · have HF2 : Hid ((s.take (j + 1 + 1)).all mayN = true ∧ SrtK (s.take (j + 1 + 1))) := set_stepS HX.out HP.out HF.out HM.out hl
              refine wp_region_held_drew (S := fun W => Below u.heap.size u W) (by kernel_rfl) ((Below.refl _ u).drew) (fun hS0 => ?_)
              refine tkI 0 15 ?v15 rfl rfl hS0 ?hy15 ?_
              case hy15 => (intro W hW; have e0 := bcell hW d0; have e1 := bcell hW d1; have e2 := bcell hW d2; have e3 := bcell hW p0; clear hW; go_simp; try rfl)
              simp only [ly]
              refine wpAnyH_ready (rs := [1]) (by kernel_rfl) (by simp) ?_
              refine AllReadyH.cons rfl (fun K hK => ?_) AllReadyH.nil
              go_simp
              refine (mayBeEntry_any k pl nl cl pd nd cd ll mm _ (HL.out.below hS0) (HD.out.below hS0)).mono ?_
              rintro e w' ⟨rfl, hb⟩
              rw [show mayN (k, ll, mm) = true from HM.out]
              refine hK.out _ _ ?hs16 (fun hS1 => ?_)
              case hs16 => exact bel_next hS0 hb
              clear hK K hb
              try simp only [ly]
              refine tkI 2 17 ?v17 rfl rfl hS1 ?hy17 ?_
              case hy17 => (intro W hW; clear hW; go_simp; try rfl)
              simp only [ly]
              refine tkI 3 18 ?v18 rfl rfl hS1 ?hy18 ?_
              case hy18 => (intro W hW; clear hW; go_simp; try rfl)
              simp only [ly]
              refine tkI 4 19 ?v19 rfl rfl hS1 ?hy19 ?_
              case hy19 => (intro W hW; clear hW; go_simp; try rfl)
              simp only [ly]
              refine tkI 5 20 ?v20 rfl rfl hS1 ?hy20 ?_
              case hy20 => (intro W hW; clear hW; go_simp; try rfl)
              simp only [ly]
              refine tkI 6 21 ?v21 rfl rfl hS1 ?hy21 ?_
              case hy21 => (intro W hW; clear hW; go_simp; try rfl)
              simp only [ly]
              refine tkI 7 22 ?v22 rfl rfl hS1 ?hy22 ?_
              case hy22 => (intro W hW; clear hW; go_simp; try rfl)
              simp only [ly]
              refine tkI 8 23 ?v23 rfl rfl hS1 ?hy23 ?_
              case hy23 => (intro W hW; clear hW; go_simp; try rfl)
              simp only [ly]
              refine tkI 9 24 ?v24 rfl rfl hS1 ?hy24 ?_
              case hy24 => (intro W hW; clear hW; go_simp; try rfl)
              simp only [ly]
              refine tkI 10 25 ?v25 rfl rfl hS1 ?hy25 ?_
              case hy25 => (intro W hW; clear hW; go_simp; try rfl)
              simp only [ly]
              refine tkI 11 26 ?v26 rfl rfl hS1 ?hy26 ?_
              case hy26 => (intro W hW; clear hW; go_simp; try rfl)
              simp only [ly]
              refine tkI 12 27 ?v27 rfl rfl hS1 ?hy27 ?_
              case hy27 => (intro W hW; have e0 := bcell hW d0; have e1 := bcell hW d1; have e2 := bcell hW d2; have e3 := bcell hW p0; clear hW; go_simp; try rfl)
              simp only [ly]
              refine tkI 13 28 ?v28 rfl rfl hS1 ?hy28 ?_
              case hy28 => (intro W hW; clear hW; go_simp; try rfl)
              simp only [ly]
              refine tkI 14 29 ?v29 rfl rfl hS1 ?hy29 ?_
              case hy29 => (intro W hW; have e0 := bcell hW d0; have e1 := bcell hW d1; have e2 := bcell hW d2; have e3 := bcell hW p0; clear hW; go_simp; try rfl)
              simp only [ly]
              refine tkI 15 30 ?v30 rfl rfl hS1 ?hy30 ?_
              case hy30 => (intro W hW; clear hW; go_simp; try rfl)
              simp only [ly]
              refine tkI 16 31 ?v31 rfl rfl hS1 ?hy31 ?_
              case hy31 => (intro W hW; clear hW; go_simp; try rfl)
              simp only [ly]
              refine tkI 17 32 ?v32 rfl rfl hS1 ?hy32 ?_
              case hy32 => (intro W hW; clear hW; go_simp; try rfl)
              simp only [ly]
              refine wpAnyH_done (by kernel_rfl) ?_ _
              go_wp2
              go_roundw
              case rel => exact ⟨j + 1 + 1, by omega, by go_num, HF2, (show Hid _ from bel_next HB2.out hS1)⟩
              case measure => simp [intOf]; omega
      · obtain rfl : k0 = n := by omega
        have HR : Hid (chkS s = 0) := by
          have h := HF.out
          rw [← HLEN.out, List.take_length] at h
          unfold Hid chkS
          rw [if_pos]
          exact mayS_iff.2 ⟨by simpa using h.1, h.2, by rw [HLEN.out]; omega⟩
        clear HF
        go_wp2
        go_ret
        exact ⟨by simp [HR.out], HB.out⟩
end Go.Proofs.YtkbbegbpkndebaaGreat

/- strings.Compare: which of two texts comes first. -/
namespace Go.Proofs.YtkbbegbpkndebaaGreat
open Go.RowKit Go.Lib
set_option linter.unusedVariables false
set_option maxRecDepth 4000 in
set_option maxHeartbeats 400000 in
theorem compareS_any (a b : ByteArray) (w : World) : Calls Tryz.prog 248 #[.string a, .string b] w fun e w' => e = .returned (.int .i64 (cmpK a b)) ∧ w' = w := by
  have HC := hide (cmpK_is a b)
  go_enter Tryz.func248, Tryz.ntmps248
  go_wp2
  rw [run_callFunc_extern Tryz.func265 (by kernel_rfl) (by kernel_rfl) (by kernel_rfl) (e := Extern.BytealgCompare.compare) (by kernel_rfl), Lib.run_compareString, HC.out]
  simp only [Result.andThen]
  rw [Oper.upon_value]
  go_wp2
  go_ret
  exact ⟨rfl, rfl⟩
set_option maxRecDepth 4000 in
set_option maxHeartbeats 400000 in
theorem Compare_any (a b : ByteArray) (w : World) : Calls Tryz.prog 232 #[.string a, .string b] w fun e w' => e = .returned (.int .i64 (cmpK a b)) ∧ w' = w := by
  go_enter Tryz.func232, Tryz.ntmps232
  go_wp2_with (go_at_call 248; refine (compareS_any _ _ _).mono ?_; rintro e w' ⟨rfl, rfl⟩)
  go_ret
  exact ⟨rfl, rfl⟩
end Go.Proofs.YtkbbegbpkndebaaGreat

