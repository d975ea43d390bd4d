/- Texts of this claim, joined: Z12. -/
import Derived.Test.YtkbbegbpkndebaaGreatJ23
import Derived.Test.YtkbbegbpkndebaaGreatJ24
/- The document's May (layer 9). -/
namespace Go.Proofs.YtkbbegbpkndebaaGreat
open Go.RowKit Go.Lib
set_option linter.unusedVariables false
set_option maxHeartbeats 8000000 in
theorem May9_ref (a : Option Addr) (n cap : Nat) (s : List En) (w : World) (hA : NSS w a n s) (hbd : ∀ x ∈ s, x.2.1.length ≤ 100000 ∧ x.2.2.length ≤ 100000) : Calls Tryz.prog 39 #[.slice a n cap] w fun e w' => e = .returned (.bool (mayS9 s)) ∧ Below w.heap.size w w' := by
 have HV := hide hA
 have hmx := hA.max
 have HLEN := hide hA.len
 have HBD := hide hbd
 unfold maxLen at hmx
 clear hA hbd
 go_enter Tryz.func39, Tryz.ntmps39
 go_wp2
 go_loopw [3] (fun i wr => ∃ k : Nat, k ≤ n ∧ i = .int .i64 k ∧ Hid ((s.take k).all mayN9 = true ∧ SrtK (s.take k)) ∧ Hid (Below w.heap.size w wr)) (fun i _ => n - (intOf i).toNat)
 case atStart => exact ⟨0, by omega, rfl, (show _ ∧ _ by simp [SrtK]), Below.refl _ _⟩
 case round =>
  obtain ⟨k0, hk, rfl, HF, HB⟩ := hrel
  by_cases hlt : k0 < n
  ·obtain ⟨b, off, rfl⟩ := HV.out.addr (by omega)
   obtain ⟨k, pl, nl, cl, pd, nd, cd, ll, mm, hx, c0, c1, c2, hdl, hcl, hdd, hcd⟩ := (HV.out.below HB.out).at k0 hlt
   have hk0 : (0 : Int) ≤ (k0 : Int) := by omega
   have hk1 : (k0 : Int) < (n : Int) := by omega
   have HX := hide hx
   have hnl : nl ≤ 100000 := by rw [← hdl.1]; exact (HBD.out _ (List.mem_of_getElem? hx)).1
   have hnd : nd ≤ 100000 := by rw [← hdd.1]; exact (HBD.out _ (List.mem_of_getElem? hx)).2
   have hws : IntKind.i64.wrap ((nl : Int) + (nd : Int)) = (nl : Int) + (nd : Int) := by rw [IntKind.wrap_i64]; omega
   clear hx hcl hcd
   go_upto_region 5 with fail
   have HB2 : Hid (Below w.heap.size w (wr.alloc (.cells #[.string k, .slice pl nl cl, .slice pd nd cd] 125))) := HB.out.alloc HB.out.size _
   have d0 := cell_new wr #[.string k, .slice pl nl cl, .slice pd nd cd] 125 _ rfl 0 _ rfl
   have d1 := cell_new wr #[.string k, .slice pl nl cl, .slice pd nd cd] 125 _ rfl 1 _ rfl
   have d2 := cell_new wr #[.string k, .slice pl nl cl, .slice pd nd cd] 125 _ rfl 2 _ rfl
   have HL := hide (hdl.below (bel1 wr (.cells #[.string k, .slice pl nl cl, .slice pd nd cd] 125)))
   have HD := hide (hdd.below (bel1 wr (.cells #[.string k, .slice pl nl cl, .slice pd nd cd] 125)))
   generalize hgb : wr.heap.size = gb at *
   have HV2 := hide (HV.out.below HB2.out)
   clear c0 c1 c2 HB hdl hdd
   generalize wr.alloc (.cells #[.string k, .slice pl nl cl, .slice pd nd cd] 125) = u at *
   clear hgb
   rcases hm : mayK k with _ | _
   ·have HK := hide hm
    have HNO : Hid (mayS9 s = false) := set9_may HX.out (mayN9_no0 hm)
    clear hm
    refine wp_region_held_drew (S := fun W => Below u.heap.size u W) (by kernel_rfl) ((Below.refl _ u).drew) (fun hS0 => ?_)
    refine tkJ 0 15 hS0 ?_; simp only [ly]
    refine tkL 1 16 hS0 ?h ?_; case h => (intro W hW; have e0 := bcell hW d0; have e1 := bcell hW d1; have e2 := bcell hW d2; clear hW; go_simp; try rfl); simp only [ly]
    refine wpAnyH_ready (rs := [2]) (by kernel_rfl) (by simp) ?_
    refine AllReadyH.cons rfl (fun K hK => ?_) AllReadyH.nil
    go_simp
    refine (KeyR_any k _).mono ?_
    rintro e w' ⟨rfl, hb⟩
    rw [show mayK k = false from HK.out]
    refine hK.out _ _ ?hs3 (fun hS1 => ?_)
    case hs3 => exact bel_next hS0 hb
    clear hK K hb
    try simp only [ly]
    refine tkJ 3 18 hS1 ?_; simp only [ly]
    refine tkJ 4 19 hS1 ?_; simp only [ly]
    refine tkM 5 20 hS1 ?_; simp only [ly]
    refine tkM 6 21 hS1 ?_; simp only [ly]
    refine tkM 7 22 hS1 ?_; simp only [ly]
    refine tkM 8 23 hS1 ?_; simp only [ly]
    refine tkM 9 24 hS1 ?_; simp only [ly]
    refine tkM 10 25 hS1 ?_; simp only [ly]
    refine tkM 11 26 hS1 ?_; simp only [ly]
    refine tkM 12 27 hS1 ?_; simp only [ly]
    refine tkM 13 28 hS1 ?_; simp only [ly]
    refine tkM 14 29 hS1 ?_; simp only [ly]
    refine tkM 15 30 hS1 ?_; simp only [ly]
    refine tkM 16 31 hS1 ?_; simp only [ly]
    refine tkM 17 32 hS1 ?_; simp only [ly]
    refine tkJ 18 33 hS1 ?_; simp only [ly]
    refine tkJ 19 34 hS1 ?_; simp only [ly]
    refine tkM 20 35 hS1 ?_; simp only [ly]
    refine tkM 21 36 hS1 ?_; simp only [ly]
    refine tkM 22 37 hS1 ?_; simp only [ly]
    refine tkM 23 38 hS1 ?_; simp only [ly]
    refine tkM 24 39 hS1 ?_; simp only [ly]
    refine tkM 25 40 hS1 ?_; simp only [ly]
    refine tkM 26 41 hS1 ?_; simp only [ly]
    refine tkM 27 42 hS1 ?_; simp only [ly]
    refine tkJ 28 43 hS1 ?_; simp only [ly]
    refine tkJ 29 44 hS1 ?_; simp only [ly]
    refine tkM 30 45 hS1 ?_; simp only [ly]
    refine tkM 31 46 hS1 ?_; simp only [ly]
    refine tkM 32 47 hS1 ?_; simp only [ly]
    refine tkM 33 48 hS1 ?_; simp only [ly]
    refine tkJ 34 49 hS1 ?_; simp only [ly]
    refine tkJ 35 50 hS1 ?_; simp only [ly]
    refine tkM 36 51 hS1 ?_; simp only [ly]
    refine tkM 37 52 hS1 ?_; simp only [ly]
    refine tkM 38 53 hS1 ?_; simp only [ly]
    refine tkM 39 54 hS1 ?_; simp only [ly]
    refine tkJ 40 55 hS1 ?_; simp only [ly]
    refine wpAnyH_done (by kernel_rfl) ?_ _
    go_wp2
    go_ret
    exact ⟨by rw [HNO.out]; rfl, bel_next HB2.out hS1⟩
   ·have HK := hide hm
    clear hm
    rcases k0 with _ | j
    ·skip
     by_cases hl0 : nl + nd = 0
     ·have hs0 : (nl : Int) + (nd : Int) = 0 := by omega
      have HNO : Hid (mayS9 s = false) := set9_may HX.out (mayN9_no1 (by have := HL.out.1; have := HD.out.1; omega))
      refine wp_region_held_drew (S := fun W => Below u.heap.size u W) (by kernel_rfl) ((Below.refl _ u).drew) (fun hS0 => ?_)
      refine tkJ 0 15 hS0 ?_; simp only [ly]
      refine tkL 1 16 hS0 ?h ?_; case h => (intro W hW; have e0 := bcell hW d0; have e1 := bcell hW d1; have e2 := bcell hW d2; clear hW; go_simp; try rfl); simp only [ly]
      refine wpAnyH_ready (rs := [2]) (by kernel_rfl) (by simp) ?_
      refine AllReadyH.cons rfl (fun K hK => ?_) AllReadyH.nil
      go_simp
      refine (KeyR_any k _).mono ?_
      rintro e w' ⟨rfl, hb⟩
      rw [show mayK k = true from HK.out]
      refine hK.out _ _ ?hs15 (fun hS1 => ?_)
      case hs15 => exact bel_next hS0 hb
      clear hK K hb
      try simp only [ly]
      refine tkJ 3 18 hS1 ?_; simp only [ly]
      refine tkJ 4 19 hS1 ?_; simp only [ly]
      refine tkJ 5 20 hS1 ?_; simp only [ly]
      refine tkJ 6 21 hS1 ?_; simp only [ly]
      refine tkJ 7 22 hS1 ?_; simp only [ly]
      refine tkM 8 23 hS1 ?_; simp only [ly]
      refine tkM 9 24 hS1 ?_; simp only [ly]
      refine tkM 10 25 hS1 ?_; simp only [ly]
      refine tkM 11 26 hS1 ?_; simp only [ly]
      refine tkM 12 27 hS1 ?_; simp only [ly]
      refine tkM 13 28 hS1 ?_; simp only [ly]
      refine tkM 14 29 hS1 ?_; simp only [ly]
      refine tkM 15 30 hS1 ?_; simp only [ly]
      refine tkM 16 31 hS1 ?_; simp only [ly]
      refine tkJ 17 32 hS1 ?_; simp only [ly]
      refine tkJ 18 33 hS1 ?_; simp only [ly]
      refine tkJ 19 34 hS1 ?_; simp only [ly]
      refine tkJ 20 35 hS1 ?_; simp only [ly]
      refine tkL 21 36 hS1 ?h ?_; case h => (intro W hW; have e0 := bcell hW d0; have e1 := bcell hW d1; have e2 := bcell hW d2; clear hW; go_simp; try rfl); simp only [ly]
      refine tkJ 22 37 hS1 ?_; simp only [ly]
      refine tkJ 23 38 hS1 ?_; simp only [ly]
      refine tkL 24 39 hS1 ?h ?_; case h => (intro W hW; have e0 := bcell hW d0; have e1 := bcell hW d1; have e2 := bcell hW d2; clear hW; go_simp; try rfl); simp only [ly]
      refine tkJ 25 40 hS1 ?_; simp only [ly]
      refine tkJ 26 41 hS1 ?_; simp only [ly]
      refine tkJ 27 42 hS1 ?_; simp only [ly]
      refine tkJ 28 43 hS1 ?_; simp only [ly]
      refine tkJ 29 44 hS1 ?_; simp only [ly]
      refine tkM 30 45 hS1 ?_; simp only [ly]
      refine tkM 31 46 hS1 ?_; simp only [ly]
      refine tkM 32 47 hS1 ?_; simp only [ly]
      refine tkM 33 48 hS1 ?_; simp only [ly]
      refine tkJ 34 49 hS1 ?_; simp only [ly]
      refine tkJ 35 50 hS1 ?_; simp only [ly]
      refine tkM 36 51 hS1 ?_; simp only [ly]
      refine tkM 37 52 hS1 ?_; simp only [ly]
      refine tkM 38 53 hS1 ?_; simp only [ly]
      refine tkM 39 54 hS1 ?_; simp only [ly]
      refine tkJ 40 55 hS1 ?_; simp only [ly]
      refine wpAnyH_done (by kernel_rfl) ?_ _
      go_wp2
      go_ret
      exact ⟨by rw [HNO.out]; rfl, bel_next HB2.out hS1⟩
     ·have hs0 : ¬ (nl : Int) + (nd : Int) = 0 := by omega
      have hs1 : ((nl : Int) + (nd : Int) == 0) = false := by rw [beq_eq_false_iff_ne]; omega
      rcases hr : rowsB ll with _ | _
      ·have HRW := hide hr
       have HNO : Hid (mayS9 s = false) := set9_may HX.out (mayN9_no2 hr)
       clear hr
       refine wp_region_held_drew (S := fun W => Below u.heap.size u W) (by kernel_rfl) ((Below.refl _ u).drew) (fun hS0 => ?_)
       refine tkJ 0 15 hS0 ?_; simp only [ly]
       refine tkL 1 16 hS0 ?h ?_; case h => (intro W hW; have e0 := bcell hW d0; have e1 := bcell hW d1; have e2 := bcell hW d2; clear hW; go_simp; try rfl); simp only [ly]
       refine wpAnyH_ready (rs := [2]) (by kernel_rfl) (by simp) ?_
       refine AllReadyH.cons rfl (fun K hK => ?_) AllReadyH.nil
       go_simp
       refine (KeyR_any k _).mono ?_
       rintro e w' ⟨rfl, hb⟩
       rw [show mayK k = true from HK.out]
       refine hK.out _ _ ?hs39 (fun hS1 => ?_)
       case hs39 => exact bel_next hS0 hb
       clear hK K hb
       try simp only [ly]
       refine tkJ 3 18 hS1 ?_; simp only [ly]
       refine tkJ 4 19 hS1 ?_; simp only [ly]
       refine tkJ 5 20 hS1 ?_; simp only [ly]
       refine tkJ 6 21 hS1 ?_; simp only [ly]
       refine tkJ 7 22 hS1 ?_; simp only [ly]
       refine tkM 8 23 hS1 ?_; simp only [ly]
       refine tkM 9 24 hS1 ?_; simp only [ly]
       refine tkM 10 25 hS1 ?_; simp only [ly]
       refine tkM 11 26 hS1 ?_; simp only [ly]
       refine tkM 12 27 hS1 ?_; simp only [ly]
       refine tkM 13 28 hS1 ?_; simp only [ly]
       refine tkM 14 29 hS1 ?_; simp only [ly]
       refine tkM 15 30 hS1 ?_; simp only [ly]
       refine tkM 16 31 hS1 ?_; simp only [ly]
       refine tkJ 17 32 hS1 ?_; simp only [ly]
       refine tkJ 18 33 hS1 ?_; simp only [ly]
       refine tkJ 19 34 hS1 ?_; simp only [ly]
       refine tkJ 20 35 hS1 ?_; simp only [ly]
       refine tkL 21 36 hS1 ?h ?_; case h => (intro W hW; have e0 := bcell hW d0; have e1 := bcell hW d1; have e2 := bcell hW d2; clear hW; go_simp; try rfl); simp only [ly]
       refine tkJ 22 37 hS1 ?_; simp only [ly]
       refine tkJ 23 38 hS1 ?_; simp only [ly]
       refine tkL 24 39 hS1 ?h ?_; case h => (intro W hW; have e0 := bcell hW d0; have e1 := bcell hW d1; have e2 := bcell hW d2; clear hW; go_simp; try rfl); simp only [ly]
       refine tkJ 25 40 hS1 ?_; simp only [ly]
       refine tkJ 26 41 hS1 ?_; simp only [ly]
       refine tkJ 27 42 hS1 ?_; simp only [ly]
       refine tkJ 28 43 hS1 ?_; simp only [ly]
       refine tkJ 29 44 hS1 ?_; simp only [ly]
       refine tkJ 30 45 hS1 ?_; simp only [ly]
       refine tkL 31 46 hS1 ?h ?_; case h => (intro W hW; have e0 := bcell hW d0; have e1 := bcell hW d1; have e2 := bcell hW d2; clear hW; go_simp; try rfl); simp only [ly]
       refine wpAnyH_ready (rs := [32]) (by kernel_rfl) (by simp) ?_
       refine AllReadyH.cons rfl (fun K hK => ?_) AllReadyH.nil
       go_simp
       refine (RowsR_any pl nl cl ll _ (HL.out.below hS1) (by omega)).mono ?_
       rintro e w' ⟨rfl, hb⟩
       rw [show rowsB ll = false from HRW.out]
       refine hK.out _ _ ?hs60 (fun hS2 => ?_)
       case hs60 => exact bel_next hS1 hb
       clear hK K hb
       try simp only [ly]
       refine tkJ 33 48 hS2 ?_; simp only [ly]
       refine tkJ 34 49 hS2 ?_; simp only [ly]
       refine tkJ 35 50 hS2 ?_; simp only [ly]
       refine tkM 36 51 hS2 ?_; simp only [ly]
       refine tkM 37 52 hS2 ?_; simp only [ly]
       refine tkM 38 53 hS2 ?_; simp only [ly]
       refine tkM 39 54 hS2 ?_; simp only [ly]
       refine tkJ 40 55 hS2 ?_; simp only [ly]
       refine wpAnyH_done (by kernel_rfl) ?_ _
       go_wp2
       go_ret
       exact ⟨by rw [HNO.out]; rfl, bel_next HB2.out hS2⟩
      ·have HRW := hide hr
       clear hr
       rcases hr : rowsB mm with _ | _
       ·have HRD := hide hr
        have HNO : Hid (mayS9 s = false) := set9_may HX.out (mayN9_no3 hr)
        clear hr
        refine wp_region_held_drew (S := fun W => Below u.heap.size u W) (by kernel_rfl) ((Below.refl _ u).drew) (fun hS0 => ?_)
        refine tkJ 0 15 hS0 ?_; simp only [ly]
        refine tkL 1 16 hS0 ?h ?_; case h => (intro W hW; have e0 := bcell hW d0; have e1 := bcell hW d1; have e2 := bcell hW d2; clear hW; go_simp; try rfl); simp only [ly]
        refine wpAnyH_ready (rs := [2]) (by kernel_rfl) (by simp) ?_
        refine AllReadyH.cons rfl (fun K hK => ?_) AllReadyH.nil
        go_simp
        refine (KeyR_any k _).mono ?_
        rintro e w' ⟨rfl, hb⟩
        rw [show mayK k = true from HK.out]
        refine hK.out _ _ ?hs67 (fun hS1 => ?_)
        case hs67 => exact bel_next hS0 hb
        clear hK K hb
        try simp only [ly]
        refine tkJ 3 18 hS1 ?_; simp only [ly]
        refine tkJ 4 19 hS1 ?_; simp only [ly]
        refine tkJ 5 20 hS1 ?_; simp only [ly]
        refine tkJ 6 21 hS1 ?_; simp only [ly]
        refine tkJ 7 22 hS1 ?_; simp only [ly]
        refine tkM 8 23 hS1 ?_; simp only [ly]
        refine tkM 9 24 hS1 ?_; simp only [ly]
        refine tkM 10 25 hS1 ?_; simp only [ly]
        refine tkM 11 26 hS1 ?_; simp only [ly]
        refine tkM 12 27 hS1 ?_; simp only [ly]
        refine tkM 13 28 hS1 ?_; simp only [ly]
        refine tkM 14 29 hS1 ?_; simp only [ly]
        refine tkM 15 30 hS1 ?_; simp only [ly]
        refine tkM 16 31 hS1 ?_; simp only [ly]
        refine tkJ 17 32 hS1 ?_; simp only [ly]
        refine tkJ 18 33 hS1 ?_; simp only [ly]
        refine tkJ 19 34 hS1 ?_; simp only [ly]
        refine tkJ 20 35 hS1 ?_; simp only [ly]
        refine tkL 21 36 hS1 ?h ?_; case h => (intro W hW; have e0 := bcell hW d0; have e1 := bcell hW d1; have e2 := bcell hW d2; clear hW; go_simp; try rfl); simp only [ly]
        refine tkJ 22 37 hS1 ?_; simp only [ly]
        refine tkJ 23 38 hS1 ?_; simp only [ly]
        refine tkL 24 39 hS1 ?h ?_; case h => (intro W hW; have e0 := bcell hW d0; have e1 := bcell hW d1; have e2 := bcell hW d2; clear hW; go_simp; try rfl); simp only [ly]
        refine tkJ 25 40 hS1 ?_; simp only [ly]
        refine tkJ 26 41 hS1 ?_; simp only [ly]
        refine tkJ 27 42 hS1 ?_; simp only [ly]
        refine tkJ 28 43 hS1 ?_; simp only [ly]
        refine tkJ 29 44 hS1 ?_; simp only [ly]
        refine tkJ 30 45 hS1 ?_; simp only [ly]
        refine tkL 31 46 hS1 ?h ?_; case h => (intro W hW; have e0 := bcell hW d0; have e1 := bcell hW d1; have e2 := bcell hW d2; clear hW; go_simp; try rfl); simp only [ly]
        refine wpAnyH_ready (rs := [32]) (by kernel_rfl) (by simp) ?_
        refine AllReadyH.cons rfl (fun K hK => ?_) AllReadyH.nil
        go_simp
        refine (RowsR_any pl nl cl ll _ (HL.out.below hS1) (by omega)).mono ?_
        rintro e w' ⟨rfl, hb⟩
        rw [show rowsB ll = true from HRW.out]
        refine hK.out _ _ ?hs88 (fun hS2 => ?_)
        case hs88 => exact bel_next hS1 hb
        clear hK K hb
        try simp only [ly]
        refine tkJ 33 48 hS2 ?_; simp only [ly]
        refine tkJ 34 49 hS2 ?_; simp only [ly]
        refine tkJ 35 50 hS2 ?_; simp only [ly]
        refine tkJ 36 51 hS2 ?_; simp only [ly]
        refine tkL 37 52 hS2 ?h ?_; case h => (intro W hW; have e0 := bcell hW d0; have e1 := bcell hW d1; have e2 := bcell hW d2; clear hW; go_simp; try rfl); simp only [ly]
        refine wpAnyH_ready (rs := [38]) (by kernel_rfl) (by simp) ?_
        refine AllReadyH.cons rfl (fun K hK => ?_) AllReadyH.nil
        go_simp
        refine (RowsR_any pd nd cd mm _ (HD.out.below hS2) (by omega)).mono ?_
        rintro e w' ⟨rfl, hb⟩
        rw [show rowsB mm = false from HRD.out]
        refine hK.out _ _ ?hs94 (fun hS3 => ?_)
        case hs94 => exact bel_next hS2 hb
        clear hK K hb
        try simp only [ly]
        refine tkJ 39 54 hS3 ?_; simp only [ly]
        refine tkJ 40 55 hS3 ?_; simp only [ly]
        refine wpAnyH_done (by kernel_rfl) ?_ _
        go_wp2
        go_ret
        exact ⟨by rw [HNO.out]; rfl, bel_next HB2.out hS3⟩
       ·have HRD := hide hr
        have HF2 := hide (set9_step HX.out HF.out (mayN9_yes HK.out (by have := HL.out.1; have := HD.out.1; omega) HRW.out hr) (fun j c h => by omega))
        clear hr
        refine wp_region_held_drew (S := fun W => Below u.heap.size u W) (by kernel_rfl) ((Below.refl _ u).drew) (fun hS0 => ?_)
        refine tkJ 0 15 hS0 ?_; simp only [ly]
        refine tkL 1 16 hS0 ?h ?_; case h => (intro W hW; have e0 := bcell hW d0; have e1 := bcell hW d1; have e2 := bcell hW d2; clear hW; go_simp; try rfl); simp only [ly]
        refine wpAnyH_ready (rs := [2]) (by kernel_rfl) (by simp) ?_
        refine AllReadyH.cons rfl (fun K hK => ?_) AllReadyH.nil
        go_simp
        refine (KeyR_any k _).mono ?_
        rintro e w' ⟨rfl, hb⟩
        rw [show mayK k = true from HK.out]
        refine hK.out _ _ ?hs99 (fun hS1 => ?_)
        case hs99 => exact bel_next hS0 hb
        clear hK K hb
        try simp only [ly]
        refine tkJ 3 18 hS1 ?_; simp only [ly]
        refine tkJ 4 19 hS1 ?_; simp only [ly]
        refine tkJ 5 20 hS1 ?_; simp only [ly]
        refine tkJ 6 21 hS1 ?_; simp only [ly]
        refine tkJ 7 22 hS1 ?_; simp only [ly]
        refine tkM 8 23 hS1 ?_; simp only [ly]
        refine tkM 9 24 hS1 ?_; simp only [ly]
        refine tkM 10 25 hS1 ?_; simp only [ly]
        refine tkM 11 26 hS1 ?_; simp only [ly]
        refine tkM 12 27 hS1 ?_; simp only [ly]
        refine tkM 13 28 hS1 ?_; simp only [ly]
        refine tkM 14 29 hS1 ?_; simp only [ly]
        refine tkM 15 30 hS1 ?_; simp only [ly]
        refine tkM 16 31 hS1 ?_; simp only [ly]
        refine tkJ 17 32 hS1 ?_; simp only [ly]
        refine tkJ 18 33 hS1 ?_; simp only [ly]
        refine tkJ 19 34 hS1 ?_; simp only [ly]
        refine tkJ 20 35 hS1 ?_; simp only [ly]
        refine tkL 21 36 hS1 ?h ?_; case h => (intro W hW; have e0 := bcell hW d0; have e1 := bcell hW d1; have e2 := bcell hW d2; clear hW; go_simp; try rfl); simp only [ly]
        refine tkJ 22 37 hS1 ?_; simp only [ly]
        refine tkJ 23 38 hS1 ?_; simp only [ly]
        refine tkL 24 39 hS1 ?h ?_; case h => (intro W hW; have e0 := bcell hW d0; have e1 := bcell hW d1; have e2 := bcell hW d2; clear hW; go_simp; try rfl); simp only [ly]
        refine tkJ 25 40 hS1 ?_; simp only [ly]
        refine tkJ 26 41 hS1 ?_; simp only [ly]
        refine tkJ 27 42 hS1 ?_; simp only [ly]
        refine tkJ 28 43 hS1 ?_; simp only [ly]
        refine tkJ 29 44 hS1 ?_; simp only [ly]
        refine tkJ 30 45 hS1 ?_; simp only [ly]
        refine tkL 31 46 hS1 ?h ?_; case h => (intro W hW; have e0 := bcell hW d0; have e1 := bcell hW d1; have e2 := bcell hW d2; clear hW; go_simp; try rfl); simp only [ly]
        refine wpAnyH_ready (rs := [32]) (by kernel_rfl) (by simp) ?_
        refine AllReadyH.cons rfl (fun K hK => ?_) AllReadyH.nil
        go_simp
        refine (RowsR_any pl nl cl ll _ (HL.out.below hS1) (by omega)).mono ?_
        rintro e w' ⟨rfl, hb⟩
        rw [show rowsB ll = true from HRW.out]
        refine hK.out _ _ ?hs120 (fun hS2 => ?_)
        case hs120 => exact bel_next hS1 hb
        clear hK K hb
        try simp only [ly]
        refine tkJ 33 48 hS2 ?_; simp only [ly]
        refine tkJ 34 49 hS2 ?_; simp only [ly]
        refine tkJ 35 50 hS2 ?_; simp only [ly]
        refine tkJ 36 51 hS2 ?_; simp only [ly]
        refine tkL 37 52 hS2 ?h ?_; case h => (intro W hW; have e0 := bcell hW d0; have e1 := bcell hW d1; have e2 := bcell hW d2; clear hW; go_simp; try rfl); simp only [ly]
        refine wpAnyH_ready (rs := [38]) (by kernel_rfl) (by simp) ?_
        refine AllReadyH.cons rfl (fun K hK => ?_) AllReadyH.nil
        go_simp
        refine (RowsR_any pd nd cd mm _ (HD.out.below hS2) (by omega)).mono ?_
        rintro e w' ⟨rfl, hb⟩
        rw [show rowsB mm = true from HRD.out]
        refine hK.out _ _ ?hs126 (fun hS3 => ?_)
        case hs126 => exact bel_next hS2 hb
        clear hK K hb
        try simp only [ly]
        refine tkJ 39 54 hS3 ?_; simp only [ly]
        refine tkJ 40 55 hS3 ?_; simp only [ly]
        refine wpAnyH_done (by kernel_rfl) ?_ _
        go_wp2
        go_roundw
        case rel => exact ⟨0 + 1, by omega, by go_num, HF2, (show Hid _ from bel_next HB2.out hS3)⟩
        case measure => simp [intOf]; omega
    ·obtain ⟨kp, pl', nl', cl', pd', nd', cd', ll', mm', hp, p0, _, _, _, _, _, _⟩ := HV2.out.at j (by omega)
     have HP := hide hp
     clear hp
     have hwj := wrapN (show j ≤ 9223372036854775807 by omega)
     have hj0 : ((j : Int)) + 1 < (n : Int) := by omega
     have hj1 : (j : Int) < (n : Int) := by omega
     have hj2 : (0 : Int) ≤ (j : Int) := by omega
     rcases hlt2 : ltK kp k with _ | _
     ·have HNO : Hid (mayS9 s = false) := set9_less HP.out HX.out hlt2
      rcases hq : Op.bytesLess k.toList kp.toList with _ | _
      ·have hqe : (k.toList == kp.toList) = true := by rw [eqK, decide_eq_true_iff]; exact ltK_tri hq hlt2
       refine wp_region_held_drew (S := fun W => Below u.heap.size u W) (by kernel_rfl) ((Below.refl _ u).drew) (fun hS0 => ?_)
       refine tkJ 0 15 hS0 ?_; simp only [ly]
       refine tkL 1 16 hS0 ?h ?_; case h => (intro W hW; have e0 := bcell hW d0; have e1 := bcell hW d1; have e2 := bcell hW d2; have e3 := bcell hW p0; clear hW; go_simp; try rfl); simp only [ly]
       refine wpAnyH_ready (rs := [2]) (by kernel_rfl) (by simp) ?_
       refine AllReadyH.cons rfl (fun K hK => ?_) AllReadyH.nil
       go_simp
       refine (KeyR_any k _).mono ?_
       rintro e w' ⟨rfl, hb⟩
       rw [show mayK k = true from HK.out]
       refine hK.out _ _ ?hs131 (fun hS1 => ?_)
       case hs131 => exact bel_next hS0 hb
       clear hK K hb
       try simp only [ly]
       refine tkJ 3 18 hS1 ?_; simp only [ly]
       refine tkJ 4 19 hS1 ?_; simp only [ly]
       refine tkJ 5 20 hS1 ?_; simp only [ly]
       refine tkJ 6 21 hS1 ?_; simp only [ly]
       refine tkJ 7 22 hS1 ?_; simp only [ly]
       refine tkJ 8 23 hS1 ?_; simp only [ly]
       refine tkL 9 24 hS1 ?h ?_; case h => (intro W hW; have e0 := bcell hW d0; have e1 := bcell hW d1; have e2 := bcell hW d2; have e3 := bcell hW p0; clear hW; go_simp; try rfl); simp only [ly]
       refine tkJ 10 25 hS1 ?_; simp only [ly]
       refine tkJ 11 26 hS1 ?_; simp only [ly]
       refine tkJ 12 27 hS1 ?_; simp only [ly]
       refine tkJ 13 28 hS1 ?_; simp only [ly]
       refine tkJ 14 29 hS1 ?_; simp only [ly]
       refine tkL 15 30 hS1 ?h ?_; case h => (intro W hW; have e0 := bcell hW d0; have e1 := bcell hW d1; have e2 := bcell hW d2; have e3 := bcell hW p0; clear hW; go_simp; try rfl); simp only [ly]
       refine tkJ 16 31 hS1 ?_; simp only [ly]
       refine tkJ 17 32 hS1 ?_; simp only [ly]
       refine tkJ 18 33 hS1 ?_; simp only [ly]
       refine tkJ 19 34 hS1 ?_; simp only [ly]
       refine tkM 20 35 hS1 ?_; simp only [ly]
       refine tkM 21 36 hS1 ?_; simp only [ly]
       refine tkM 22 37 hS1 ?_; simp only [ly]
       refine tkM 23 38 hS1 ?_; simp only [ly]
       refine tkM 24 39 hS1 ?_; simp only [ly]
       refine tkM 25 40 hS1 ?_; simp only [ly]
       refine tkM 26 41 hS1 ?_; simp only [ly]
       refine tkM 27 42 hS1 ?_; simp only [ly]
       refine tkJ 28 43 hS1 ?_; simp only [ly]
       refine tkJ 29 44 hS1 ?_; simp only [ly]
       refine tkM 30 45 hS1 ?_; simp only [ly]
       refine tkM 31 46 hS1 ?_; simp only [ly]
       refine tkM 32 47 hS1 ?_; simp only [ly]
       refine tkM 33 48 hS1 ?_; simp only [ly]
       refine tkJ 34 49 hS1 ?_; simp only [ly]
       refine tkJ 35 50 hS1 ?_; simp only [ly]
       refine tkM 36 51 hS1 ?_; simp only [ly]
       refine tkM 37 52 hS1 ?_; simp only [ly]
       refine tkM 38 53 hS1 ?_; simp only [ly]
       refine tkM 39 54 hS1 ?_; simp only [ly]
       refine tkJ 40 55 hS1 ?_; simp only [ly]
       refine wpAnyH_done (by kernel_rfl) ?_ _
       go_wp2
       go_ret
       exact ⟨by rw [HNO.out]; rfl, bel_next HB2.out hS1⟩
      ·skip
       refine wp_region_held_drew (S := fun W => Below u.heap.size u W) (by kernel_rfl) ((Below.refl _ u).drew) (fun hS0 => ?_)
       refine tkJ 0 15 hS0 ?_; simp only [ly]
       refine tkL 1 16 hS0 ?h ?_; case h => (intro W hW; have e0 := bcell hW d0; have e1 := bcell hW d1; have e2 := bcell hW d2; have e3 := bcell hW p0; clear hW; go_simp; try rfl); simp only [ly]
       refine wpAnyH_ready (rs := [2]) (by kernel_rfl) (by simp) ?_
       refine AllReadyH.cons rfl (fun K hK => ?_) AllReadyH.nil
       go_simp
       refine (KeyR_any k _).mono ?_
       rintro e w' ⟨rfl, hb⟩
       rw [show mayK k = true from HK.out]
       refine hK.out _ _ ?hs156 (fun hS1 => ?_)
       case hs156 => exact bel_next hS0 hb
       clear hK K hb
       try simp only [ly]
       refine tkJ 3 18 hS1 ?_; simp only [ly]
       refine tkJ 4 19 hS1 ?_; simp only [ly]
       refine tkJ 5 20 hS1 ?_; simp only [ly]
       refine tkJ 6 21 hS1 ?_; simp only [ly]
       refine tkJ 7 22 hS1 ?_; simp only [ly]
       refine tkJ 8 23 hS1 ?_; simp only [ly]
       refine tkL 9 24 hS1 ?h ?_; case h => (intro W hW; have e0 := bcell hW d0; have e1 := bcell hW d1; have e2 := bcell hW d2; have e3 := bcell hW p0; clear hW; go_simp; try rfl); simp only [ly]
       refine tkJ 10 25 hS1 ?_; simp only [ly]
       refine tkJ 11 26 hS1 ?_; simp only [ly]
       refine tkJ 12 27 hS1 ?_; simp only [ly]
       refine tkJ 13 28 hS1 ?_; simp only [ly]
       refine tkJ 14 29 hS1 ?_; simp only [ly]
       refine tkL 15 30 hS1 ?h ?_; case h => (intro W hW; have e0 := bcell hW d0; have e1 := bcell hW d1; have e2 := bcell hW d2; have e3 := bcell hW p0; clear hW; go_simp; try rfl); simp only [ly]
       refine tkJ 16 31 hS1 ?_; simp only [ly]
       refine tkJ 17 32 hS1 ?_; simp only [ly]
       refine tkJ 18 33 hS1 ?_; simp only [ly]
       refine tkJ 19 34 hS1 ?_; simp only [ly]
       refine tkM 20 35 hS1 ?_; simp only [ly]
       refine tkM 21 36 hS1 ?_; simp only [ly]
       refine tkM 22 37 hS1 ?_; simp only [ly]
       refine tkM 23 38 hS1 ?_; simp only [ly]
       refine tkM 24 39 hS1 ?_; simp only [ly]
       refine tkM 25 40 hS1 ?_; simp only [ly]
       refine tkM 26 41 hS1 ?_; simp only [ly]
       refine tkM 27 42 hS1 ?_; simp only [ly]
       refine tkJ 28 43 hS1 ?_; simp only [ly]
       refine tkJ 29 44 hS1 ?_; simp only [ly]
       refine tkM 30 45 hS1 ?_; simp only [ly]
       refine tkM 31 46 hS1 ?_; simp only [ly]
       refine tkM 32 47 hS1 ?_; simp only [ly]
       refine tkM 33 48 hS1 ?_; simp only [ly]
       refine tkJ 34 49 hS1 ?_; simp only [ly]
       refine tkJ 35 50 hS1 ?_; simp only [ly]
       refine tkM 36 51 hS1 ?_; simp only [ly]
       refine tkM 37 52 hS1 ?_; simp only [ly]
       refine tkM 38 53 hS1 ?_; simp only [ly]
       refine tkM 39 54 hS1 ?_; simp only [ly]
       refine tkJ 40 55 hS1 ?_; simp only [ly]
       refine wpAnyH_done (by kernel_rfl) ?_ _
       go_wp2
       go_ret
       exact ⟨by rw [HNO.out]; rfl, bel_next HB2.out hS1⟩
     ·have hq : Op.bytesLess k.toList kp.toList = false := ltK_asym hlt2
      have hqe : (k.toList == kp.toList) = false := by rw [eqK, decide_eq_false_iff_not]; exact (ltK_ne hlt2).symm
      by_cases hl0 : nl + nd = 0
      ·have hs0 : (nl : Int) + (nd : Int) = 0 := by omega
       have HNO : Hid (mayS9 s = false) := set9_may HX.out (mayN9_no1 (by have := HL.out.1; have := HD.out.1; omega))
       refine wp_region_held_drew (S := fun W => Below u.heap.size u W) (by kernel_rfl) ((Below.refl _ u).drew) (fun hS0 => ?_)
       refine tkJ 0 15 hS0 ?_; simp only [ly]
       refine tkL 1 16 hS0 ?h ?_; case h => (intro W hW; have e0 := bcell hW d0; have e1 := bcell hW d1; have e2 := bcell hW d2; have e3 := bcell hW p0; clear hW; go_simp; try rfl); simp only [ly]
       refine wpAnyH_ready (rs := [2]) (by kernel_rfl) (by simp) ?_
       refine AllReadyH.cons rfl (fun K hK => ?_) AllReadyH.nil
       go_simp
       refine (KeyR_any k _).mono ?_
       rintro e w' ⟨rfl, hb⟩
       rw [show mayK k = true from HK.out]
       refine hK.out _ _ ?hs181 (fun hS1 => ?_)
       case hs181 => exact bel_next hS0 hb
       clear hK K hb
       try simp only [ly]
       refine tkJ 3 18 hS1 ?_; simp only [ly]
       refine tkJ 4 19 hS1 ?_; simp only [ly]
       refine tkJ 5 20 hS1 ?_; simp only [ly]
       refine tkJ 6 21 hS1 ?_; simp only [ly]
       refine tkJ 7 22 hS1 ?_; simp only [ly]
       refine tkJ 8 23 hS1 ?_; simp only [ly]
       refine tkL 9 24 hS1 ?h ?_; case h => (intro W hW; have e0 := bcell hW d0; have e1 := bcell hW d1; have e2 := bcell hW d2; have e3 := bcell hW p0; clear hW; go_simp; try rfl); simp only [ly]
       refine tkJ 10 25 hS1 ?_; simp only [ly]
       refine tkJ 11 26 hS1 ?_; simp only [ly]
       refine tkJ 12 27 hS1 ?_; simp only [ly]
       refine tkJ 13 28 hS1 ?_; simp only [ly]
       refine tkJ 14 29 hS1 ?_; simp only [ly]
       refine tkL 15 30 hS1 ?h ?_; case h => (intro W hW; have e0 := bcell hW d0; have e1 := bcell hW d1; have e2 := bcell hW d2; have e3 := bcell hW p0; clear hW; go_simp; try rfl); simp only [ly]
       refine tkJ 16 31 hS1 ?_; simp only [ly]
       refine tkJ 17 32 hS1 ?_; simp only [ly]
       refine tkJ 18 33 hS1 ?_; simp only [ly]
       refine tkJ 19 34 hS1 ?_; simp only [ly]
       refine tkJ 20 35 hS1 ?_; simp only [ly]
       refine tkL 21 36 hS1 ?h ?_; case h => (intro W hW; have e0 := bcell hW d0; have e1 := bcell hW d1; have e2 := bcell hW d2; have e3 := bcell hW p0; clear hW; go_simp; try rfl); simp only [ly]
       refine tkJ 22 37 hS1 ?_; simp only [ly]
       refine tkJ 23 38 hS1 ?_; simp only [ly]
       refine tkL 24 39 hS1 ?h ?_; case h => (intro W hW; have e0 := bcell hW d0; have e1 := bcell hW d1; have e2 := bcell hW d2; have e3 := bcell hW p0; clear hW; go_simp; try rfl); simp only [ly]
       refine tkJ 25 40 hS1 ?_; simp only [ly]
       refine tkJ 26 41 hS1 ?_; simp only [ly]
       refine tkJ 27 42 hS1 ?_; simp only [ly]
       refine tkJ 28 43 hS1 ?_; simp only [ly]
       refine tkJ 29 44 hS1 ?_; simp only [ly]
       refine tkM 30 45 hS1 ?_; simp only [ly]
       refine tkM 31 46 hS1 ?_; simp only [ly]
       refine tkM 32 47 hS1 ?_; simp only [ly]
       refine tkM 33 48 hS1 ?_; simp only [ly]
       refine tkJ 34 49 hS1 ?_; simp only [ly]
       refine tkJ 35 50 hS1 ?_; simp only [ly]
       refine tkM 36 51 hS1 ?_; simp only [ly]
       refine tkM 37 52 hS1 ?_; simp only [ly]
       refine tkM 38 53 hS1 ?_; simp only [ly]
       refine tkM 39 54 hS1 ?_; simp only [ly]
       refine tkJ 40 55 hS1 ?_; simp only [ly]
       refine wpAnyH_done (by kernel_rfl) ?_ _
       go_wp2
       go_ret
       exact ⟨by rw [HNO.out]; rfl, bel_next HB2.out hS1⟩
      ·have hs0 : ¬ (nl : Int) + (nd : Int) = 0 := by omega
       have hs1 : ((nl : Int) + (nd : Int) == 0) = false := by rw [beq_eq_false_iff_ne]; omega
       rcases hr : rowsB ll with _ | _
       ·have HRW := hide hr
        have HNO : Hid (mayS9 s = false) := set9_may HX.out (mayN9_no2 hr)
        clear hr
        refine wp_region_held_drew (S := fun W => Below u.heap.size u W) (by kernel_rfl) ((Below.refl _ u).drew) (fun hS0 => ?_)
        refine tkJ 0 15 hS0 ?_; simp only [ly]
        refine tkL 1 16 hS0 ?h ?_; case h => (intro W hW; have e0 := bcell hW d0; have e1 := bcell hW d1; have e2 := bcell hW d2; have e3 := bcell hW p0; clear hW; go_simp; try rfl); simp only [ly]
        refine wpAnyH_ready (rs := [2]) (by kernel_rfl) (by simp) ?_
        refine AllReadyH.cons rfl (fun K hK => ?_) AllReadyH.nil
        go_simp
        refine (KeyR_any k _).mono ?_
        rintro e w' ⟨rfl, hb⟩
        rw [show mayK k = true from HK.out]
        refine hK.out _ _ ?hs214 (fun hS1 => ?_)
        case hs214 => exact bel_next hS0 hb
        clear hK K hb
        try simp only [ly]
        refine tkJ 3 18 hS1 ?_; simp only [ly]
        refine tkJ 4 19 hS1 ?_; simp only [ly]
        refine tkJ 5 20 hS1 ?_; simp only [ly]
        refine tkJ 6 21 hS1 ?_; simp only [ly]
        refine tkJ 7 22 hS1 ?_; simp only [ly]
        refine tkJ 8 23 hS1 ?_; simp only [ly]
        refine tkL 9 24 hS1 ?h ?_; case h => (intro W hW; have e0 := bcell hW d0; have e1 := bcell hW d1; have e2 := bcell hW d2; have e3 := bcell hW p0; clear hW; go_simp; try rfl); simp only [ly]
        refine tkJ 10 25 hS1 ?_; simp only [ly]
        refine tkJ 11 26 hS1 ?_; simp only [ly]
        refine tkJ 12 27 hS1 ?_; simp only [ly]
        refine tkJ 13 28 hS1 ?_; simp only [ly]
        refine tkJ 14 29 hS1 ?_; simp only [ly]
        refine tkL 15 30 hS1 ?h ?_; case h => (intro W hW; have e0 := bcell hW d0; have e1 := bcell hW d1; have e2 := bcell hW d2; have e3 := bcell hW p0; clear hW; go_simp; try rfl); simp only [ly]
        refine tkJ 16 31 hS1 ?_; simp only [ly]
        refine tkJ 17 32 hS1 ?_; simp only [ly]
        refine tkJ 18 33 hS1 ?_; simp only [ly]
        refine tkJ 19 34 hS1 ?_; simp only [ly]
        refine tkJ 20 35 hS1 ?_; simp only [ly]
        refine tkL 21 36 hS1 ?h ?_; case h => (intro W hW; have e0 := bcell hW d0; have e1 := bcell hW d1; have e2 := bcell hW d2; have e3 := bcell hW p0; clear hW; go_simp; try rfl); simp only [ly]
        refine tkJ 22 37 hS1 ?_; simp only [ly]
        refine tkJ 23 38 hS1 ?_; simp only [ly]
        refine tkL 24 39 hS1 ?h ?_; case h => (intro W hW; have e0 := bcell hW d0; have e1 := bcell hW d1; have e2 := bcell hW d2; have e3 := bcell hW p0; clear hW; go_simp; try rfl); simp only [ly]
        refine tkJ 25 40 hS1 ?_; simp only [ly]
        refine tkJ 26 41 hS1 ?_; simp only [ly]
        refine tkJ 27 42 hS1 ?_; simp only [ly]
        refine tkJ 28 43 hS1 ?_; simp only [ly]
        refine tkJ 29 44 hS1 ?_; simp only [ly]
        refine tkJ 30 45 hS1 ?_; simp only [ly]
        refine tkL 31 46 hS1 ?h ?_; case h => (intro W hW; have e0 := bcell hW d0; have e1 := bcell hW d1; have e2 := bcell hW d2; have e3 := bcell hW p0; clear hW; go_simp; try rfl); simp only [ly]
        refine wpAnyH_ready (rs := [32]) (by kernel_rfl) (by simp) ?_
        refine AllReadyH.cons rfl (fun K hK => ?_) AllReadyH.nil
        go_simp
        refine (RowsR_any pl nl cl ll _ (HL.out.below hS1) (by omega)).mono ?_
        rintro e w' ⟨rfl, hb⟩
        rw [show rowsB ll = false from HRW.out]
        refine hK.out _ _ ?hs244 (fun hS2 => ?_)
        case hs244 => exact bel_next hS1 hb
        clear hK K hb
        try simp only [ly]
        refine tkJ 33 48 hS2 ?_; simp only [ly]
        refine tkJ 34 49 hS2 ?_; simp only [ly]
        refine tkJ 35 50 hS2 ?_; simp only [ly]
        refine tkM 36 51 hS2 ?_; simp only [ly]
        refine tkM 37 52 hS2 ?_; simp only [ly]
        refine tkM 38 53 hS2 ?_; simp only [ly]
        refine tkM 39 54 hS2 ?_; simp only [ly]
        refine tkJ 40 55 hS2 ?_; simp only [ly]
        refine wpAnyH_done (by kernel_rfl) ?_ _
        go_wp2
        go_ret
        exact ⟨by rw [HNO.out]; rfl, bel_next HB2.out hS2⟩
       ·have HRW := hide hr
        clear hr
        rcases hr : rowsB mm with _ | _
        ·have HRD := hide hr
         have HNO : Hid (mayS9 s = false) := set9_may HX.out (mayN9_no3 hr)
         clear hr
         refine wp_region_held_drew (S := fun W => Below u.heap.size u W) (by kernel_rfl) ((Below.refl _ u).drew) (fun hS0 => ?_)
         refine tkJ 0 15 hS0 ?_; simp only [ly]
         refine tkL 1 16 hS0 ?h ?_; case h => (intro W hW; have e0 := bcell hW d0; have e1 := bcell hW d1; have e2 := bcell hW d2; have e3 := bcell hW p0; clear hW; go_simp; try rfl); simp only [ly]
         refine wpAnyH_ready (rs := [2]) (by kernel_rfl) (by simp) ?_
         refine AllReadyH.cons rfl (fun K hK => ?_) AllReadyH.nil
         go_simp
         refine (KeyR_any k _).mono ?_
         rintro e w' ⟨rfl, hb⟩
         rw [show mayK k = true from HK.out]
         refine hK.out _ _ ?hs251 (fun hS1 => ?_)
         case hs251 => exact bel_next hS0 hb
         clear hK K hb
         try simp only [ly]
         refine tkJ 3 18 hS1 ?_; simp only [ly]
         refine tkJ 4 19 hS1 ?_; simp only [ly]
         refine tkJ 5 20 hS1 ?_; simp only [ly]
         refine tkJ 6 21 hS1 ?_; simp only [ly]
         refine tkJ 7 22 hS1 ?_; simp only [ly]
         refine tkJ 8 23 hS1 ?_; simp only [ly]
         refine tkL 9 24 hS1 ?h ?_; case h => (intro W hW; have e0 := bcell hW d0; have e1 := bcell hW d1; have e2 := bcell hW d2; have e3 := bcell hW p0; clear hW; go_simp; try rfl); simp only [ly]
         refine tkJ 10 25 hS1 ?_; simp only [ly]
         refine tkJ 11 26 hS1 ?_; simp only [ly]
         refine tkJ 12 27 hS1 ?_; simp only [ly]
         refine tkJ 13 28 hS1 ?_; simp only [ly]
         refine tkJ 14 29 hS1 ?_; simp only [ly]
         refine tkL 15 30 hS1 ?h ?_; case h => (intro W hW; have e0 := bcell hW d0; have e1 := bcell hW d1; have e2 := bcell hW d2; have e3 := bcell hW p0; clear hW; go_simp; try rfl); simp only [ly]
         refine tkJ 16 31 hS1 ?_; simp only [ly]
         refine tkJ 17 32 hS1 ?_; simp only [ly]
         refine tkJ 18 33 hS1 ?_; simp only [ly]
         refine tkJ 19 34 hS1 ?_; simp only [ly]
         refine tkJ 20 35 hS1 ?_; simp only [ly]
         refine tkL 21 36 hS1 ?h ?_; case h => (intro W hW; have e0 := bcell hW d0; have e1 := bcell hW d1; have e2 := bcell hW d2; have e3 := bcell hW p0; clear hW; go_simp; try rfl); simp only [ly]
         refine tkJ 22 37 hS1 ?_; simp only [ly]
         refine tkJ 23 38 hS1 ?_; simp only [ly]
         refine tkL 24 39 hS1 ?h ?_; case h => (intro W hW; have e0 := bcell hW d0; have e1 := bcell hW d1; have e2 := bcell hW d2; have e3 := bcell hW p0; clear hW; go_simp; try rfl); simp only [ly]
         refine tkJ 25 40 hS1 ?_; simp only [ly]
         refine tkJ 26 41 hS1 ?_; simp only [ly]
         refine tkJ 27 42 hS1 ?_; simp only [ly]
         refine tkJ 28 43 hS1 ?_; simp only [ly]
         refine tkJ 29 44 hS1 ?_; simp only [ly]
         refine tkJ 30 45 hS1 ?_; simp only [ly]
         refine tkL 31 46 hS1 ?h ?_; case h => (intro W hW; have e0 := bcell hW d0; have e1 := bcell hW d1; have e2 := bcell hW d2; have e3 := bcell hW p0; clear hW; go_simp; try rfl); simp only [ly]
         refine wpAnyH_ready (rs := [32]) (by kernel_rfl) (by simp) ?_
         refine AllReadyH.cons rfl (fun K hK => ?_) AllReadyH.nil
         go_simp
         refine (RowsR_any pl nl cl ll _ (HL.out.below hS1) (by omega)).mono ?_
         rintro e w' ⟨rfl, hb⟩
         rw [show rowsB ll = true from HRW.out]
         refine hK.out _ _ ?hs281 (fun hS2 => ?_)
         case hs281 => exact bel_next hS1 hb
         clear hK K hb
         try simp only [ly]
         refine tkJ 33 48 hS2 ?_; simp only [ly]
         refine tkJ 34 49 hS2 ?_; simp only [ly]
         refine tkJ 35 50 hS2 ?_; simp only [ly]
         refine tkJ 36 51 hS2 ?_; simp only [ly]
         refine tkL 37 52 hS2 ?h ?_; case h => (intro W hW; have e0 := bcell hW d0; have e1 := bcell hW d1; have e2 := bcell hW d2; have e3 := bcell hW p0; clear hW; go_simp; try rfl); simp only [ly]
         refine wpAnyH_ready (rs := [38]) (by kernel_rfl) (by simp) ?_
         refine AllReadyH.cons rfl (fun K hK => ?_) AllReadyH.nil
         go_simp
         refine (RowsR_any pd nd cd mm _ (HD.out.below hS2) (by omega)).mono ?_
         rintro e w' ⟨rfl, hb⟩
         rw [show rowsB mm = false from HRD.out]
         refine hK.out _ _ ?hs287 (fun hS3 => ?_)
         case hs287 => exact bel_next hS2 hb
         clear hK K hb
         try simp only [ly]
         refine tkJ 39 54 hS3 ?_; simp only [ly]
         refine tkJ 40 55 hS3 ?_; simp only [ly]
         refine wpAnyH_done (by kernel_rfl) ?_ _
         go_wp2
         go_ret
         exact ⟨by rw [HNO.out]; rfl, bel_next HB2.out hS3⟩
        ·have HRD := hide hr
         have HF2 := hide (set9_stepS HX.out HP.out HF.out (mayN9_yes HK.out (by have := HL.out.1; have := HD.out.1; omega) HRW.out hr) hlt2)
         clear hr
         refine wp_region_held_drew (S := fun W => Below u.heap.size u W) (by kernel_rfl) ((Below.refl _ u).drew) (fun hS0 => ?_)
         refine tkJ 0 15 hS0 ?_; simp only [ly]
         refine tkL 1 16 hS0 ?h ?_; case h => (intro W hW; have e0 := bcell hW d0; have e1 := bcell hW d1; have e2 := bcell hW d2; have e3 := bcell hW p0; clear hW; go_simp; try rfl); simp only [ly]
         refine wpAnyH_ready (rs := [2]) (by kernel_rfl) (by simp) ?_
         refine AllReadyH.cons rfl (fun K hK => ?_) AllReadyH.nil
         go_simp
         refine (KeyR_any k _).mono ?_
         rintro e w' ⟨rfl, hb⟩
         rw [show mayK k = true from HK.out]
         refine hK.out _ _ ?hs292 (fun hS1 => ?_)
         case hs292 => exact bel_next hS0 hb
         clear hK K hb
         try simp only [ly]
         refine tkJ 3 18 hS1 ?_; simp only [ly]
         refine tkJ 4 19 hS1 ?_; simp only [ly]
         refine tkJ 5 20 hS1 ?_; simp only [ly]
         refine tkJ 6 21 hS1 ?_; simp only [ly]
         refine tkJ 7 22 hS1 ?_; simp only [ly]
         refine tkJ 8 23 hS1 ?_; simp only [ly]
         refine tkL 9 24 hS1 ?h ?_; case h => (intro W hW; have e0 := bcell hW d0; have e1 := bcell hW d1; have e2 := bcell hW d2; have e3 := bcell hW p0; clear hW; go_simp; try rfl); simp only [ly]
         refine tkJ 10 25 hS1 ?_; simp only [ly]
         refine tkJ 11 26 hS1 ?_; simp only [ly]
         refine tkJ 12 27 hS1 ?_; simp only [ly]
         refine tkJ 13 28 hS1 ?_; simp only [ly]
         refine tkJ 14 29 hS1 ?_; simp only [ly]
         refine tkL 15 30 hS1 ?h ?_; case h => (intro W hW; have e0 := bcell hW d0; have e1 := bcell hW d1; have e2 := bcell hW d2; have e3 := bcell hW p0; clear hW; go_simp; try rfl); simp only [ly]
         refine tkJ 16 31 hS1 ?_; simp only [ly]
         refine tkJ 17 32 hS1 ?_; simp only [ly]
         refine tkJ 18 33 hS1 ?_; simp only [ly]
         refine tkJ 19 34 hS1 ?_; simp only [ly]
         refine tkJ 20 35 hS1 ?_; simp only [ly]
         refine tkL 21 36 hS1 ?h ?_; case h => (intro W hW; have e0 := bcell hW d0; have e1 := bcell hW d1; have e2 := bcell hW d2; have e3 := bcell hW p0; clear hW; go_simp; try rfl); simp only [ly]
         refine tkJ 22 37 hS1 ?_; simp only [ly]
         refine tkJ 23 38 hS1 ?_; simp only [ly]
         refine tkL 24 39 hS1 ?h ?_; case h => (intro W hW; have e0 := bcell hW d0; have e1 := bcell hW d1; have e2 := bcell hW d2; have e3 := bcell hW p0; clear hW; go_simp; try rfl); simp only [ly]
         refine tkJ 25 40 hS1 ?_; simp only [ly]
         refine tkJ 26 41 hS1 ?_; simp only [ly]
         refine tkJ 27 42 hS1 ?_; simp only [ly]
         refine tkJ 28 43 hS1 ?_; simp only [ly]
         refine tkJ 29 44 hS1 ?_; simp only [ly]
         refine tkJ 30 45 hS1 ?_; simp only [ly]
         refine tkL 31 46 hS1 ?h ?_; case h => (intro W hW; have e0 := bcell hW d0; have e1 := bcell hW d1; have e2 := bcell hW d2; have e3 := bcell hW p0; clear hW; go_simp; try rfl); simp only [ly]
         refine wpAnyH_ready (rs := [32]) (by kernel_rfl) (by simp) ?_
         refine AllReadyH.cons rfl (fun K hK => ?_) AllReadyH.nil
         go_simp
         refine (RowsR_any pl nl cl ll _ (HL.out.below hS1) (by omega)).mono ?_
         rintro e w' ⟨rfl, hb⟩
         rw [show rowsB ll = true from HRW.out]
         refine hK.out _ _ ?hs322 (fun hS2 => ?_)
         case hs322 => exact bel_next hS1 hb
         clear hK K hb
         try simp only [ly]
         refine tkJ 33 48 hS2 ?_; simp only [ly]
         refine tkJ 34 49 hS2 ?_; simp only [ly]
         refine tkJ 35 50 hS2 ?_; simp only [ly]
         refine tkJ 36 51 hS2 ?_; simp only [ly]
         refine tkL 37 52 hS2 ?h ?_; case h => (intro W hW; have e0 := bcell hW d0; have e1 := bcell hW d1; have e2 := bcell hW d2; have e3 := bcell hW p0; clear hW; go_simp; try rfl); simp only [ly]
         refine wpAnyH_ready (rs := [38]) (by kernel_rfl) (by simp) ?_
         refine AllReadyH.cons rfl (fun K hK => ?_) AllReadyH.nil
         go_simp
         refine (RowsR_any pd nd cd mm _ (HD.out.below hS2) (by omega)).mono ?_
         rintro e w' ⟨rfl, hb⟩
         rw [show rowsB mm = true from HRD.out]
         refine hK.out _ _ ?hs328 (fun hS3 => ?_)
         case hs328 => exact bel_next hS2 hb
         clear hK K hb
         try simp only [ly]
         refine tkJ 39 54 hS3 ?_; simp only [ly]
         refine tkJ 40 55 hS3 ?_; simp only [ly]
         refine wpAnyH_done (by kernel_rfl) ?_ _
         go_wp2
         go_roundw
         case rel => exact ⟨j + 1 + 1, by omega, by go_num, HF2, (show Hid _ from bel_next HB2.out hS3)⟩
         case measure => simp [intOf]; omega
  ·obtain rfl : k0 = n := by omega
   have HR : Hid (mayS9 s = decide (k0 ≤ 4000)) := by
    have h := HF.out
    rw [← HLEN.out, List.take_length] at h
    unfold Hid
    rw [Bool.eq_iff_iff, mayS9_iff, decide_eq_true_iff, HLEN.out]
    exact ⟨fun q => q.2.2, fun q => ⟨by simpa using h.1, h.2, q⟩⟩
   clear HF
   by_cases h4 : (k0 : Int) ≤ 4000
   ·go_wp2
    go_ret
    exact ⟨by rw [HR.out, decide_eq_true (by omega)]; rfl, HB.out⟩
   ·go_wp2
    go_ret
    exact ⟨by rw [HR.out, decide_eq_false (by omega)]; rfl, HB.out⟩
end Go.Proofs.YtkbbegbpkndebaaGreat

