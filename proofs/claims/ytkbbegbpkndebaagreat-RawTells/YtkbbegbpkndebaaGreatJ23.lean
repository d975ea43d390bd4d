/- Texts of this claim, joined: B1. -/
import Derived.Test.YtkbbegbpkndebaaGreatJ7
/- The document's Key, Rows, May (layer 8). -/
namespace Go.Proofs.YtkbbegbpkndebaaGreat
open Go.RowKit Go.Lib
set_option linter.unusedVariables false
theorem empK (k : ByteArray) : (k.toList == (⟨#[]⟩ : ByteArray).toList) = decide (k.size = 0) := by
 rw [eqK, Bool.eq_iff_iff, decide_eq_true_iff, decide_eq_true_iff]
 constructor
 ·rintro rfl; rfl
 ·intro h
  obtain ⟨⟨x⟩⟩ := k
  have : x.length = 0 := h
  rw [List.eq_nil_of_length_eq_zero this]
set_option maxHeartbeats 400000 in
theorem KeyR_any (k : ByteArray) (w : World) : Calls Tryz.prog 110 #[.string k] w fun e w' => e = .returned (.bool (mayK k)) ∧ Below w.heap.size w w' := by
 obtain ⟨b, hb⟩ : ∃ b, mayK k = b := ⟨_, rfl⟩
 rw [hb]
 have HB := hide hb
 clear hb
 by_cases h1 : k.size = 0
 ·have he := empK k
  rw [decide_eq_true h1, eqK, decide_eq_true_iff] at he
  subst he
  clear h1
  go_enter Tryz.func110, Tryz.ntmps110
  go_wp2
  go_ret
  refine ⟨?_, by first | exact Below.refl _ _ | go_grown⟩
  rw [← HB.out]
  rfl
 ·have hne : ¬ k.toList = [] := by
   intro h
   have he := empK k
   have h0 : (⟨#[]⟩ : ByteArray).toList = [] := by rw [ByteArray.toList_eq]
   rw [decide_eq_false h1, h, h0] at he
   cases he
  have hie : k.toList.isEmpty = false := by
   rcases hk : k.toList with _ | ⟨x, l⟩
   ·exact absurd hk hne
   ·rfl
  have hkp : (1 : Int) ≤ (k.size : Int) := by omega
  by_cases h2 : (k.size : Int) ≤ 32
  ·go_enter Tryz.func110, Tryz.ntmps110
   go_wp2
   go_ret
   refine ⟨?_, by first | exact Below.refl _ _ | go_grown⟩
   rw [← HB.out]
   simp [mayK]; omega
  ·go_enter Tryz.func110, Tryz.ntmps110
   go_wp2
   go_ret
   refine ⟨?_, by first | exact Below.refl _ _ | go_grown⟩
   rw [← HB.out]
   simp [mayK]; omega
set_option maxHeartbeats 400000 in
theorem RowsR_any (p : Option Addr) (n cap : Nat) (l : List Dot) (w : World) (hA : DS w p n l) (hn : n ≤ 100000) : Calls Tryz.prog 111 #[.slice p n cap] w fun e w' => e = .returned (.bool (rowsB l)) ∧ Below w.heap.size w w' := by
 have HV := hide hA
 clear hA
 have BB : Hid (Below w.heap.size w w) := Below.refl _ _
 rcases h1 : l.all mayD with _ | _
 ·have H1 := hide h1
  have HR : Hid (rowsB l = false) := by unfold Hid rowsB; rw [h1]; rfl
  clear h1
  go_enter Tryz.func111, Tryz.ntmps111
  go_wp2_with (go_at_call 158; refine (All_any p n cap l _ HV.out).mono ?_; rintro e w1 ⟨rfl, hb⟩; rw [H1.out])
  go_ret
  exact ⟨by rw [HR.out]; rfl, hb⟩
 ·have H1 := hide h1
  have HR : Hid (rowsB l = decide (ordD l = l)) := by unfold Hid rowsB; rw [h1]; rfl
  clear h1
  go_enter Tryz.func111, Tryz.ntmps111
  go_wp2_with (first | (go_at_call 158; refine (All_any p n cap l _ HV.out).mono ?_; rintro e w1 ⟨rfl, hb⟩; rw [H1.out]; replace BB := hide (bel_next BB.out hb); clear hb) | (go_at_call 159; refine (OrderR_any p n cap l _ (HV.out.below BB.out) hn).mono ?_; rintro e w2 ⟨v2, rfl, ho2, hb⟩; obtain ⟨p2, c2, rfl, hd2, _⟩ := ho2.open; have HD2 := hide hd2; replace BB := hide (bel_next BB.out hb); clear hb ho2 hd2) | (go_at_call 137; refine (Dots_any p2 p _ c2 n cap (ordD l) l _ HD2.out (HV.out.below BB.out)).mono ?_; rintro e w3 ⟨rfl, hb⟩; replace BB := hide (bel_next BB.out hb); clear hb))
  go_ret
  exact ⟨by rw [HR.out]; rfl, BB.out⟩
theorem mayN_yes {k : ByteArray} {l m : List Dot} (h : mayK k = true) (h1 : 0 < l.length) (h2 : m.length = 0) (h3 : rowsB l = true) : mayN (k, l, m) = true := by
 have e := List.eq_nil_of_length_eq_zero h2
 subst e
 refine mayN_iff.2 ⟨h, ?_, rfl, h3⟩
 rintro rfl
 simp at h1
theorem mayN_no1 {k : ByteArray} {l m : List Dot} (h : l.length = 0) : mayN (k, l, m) = false := by
 have := List.eq_nil_of_length_eq_zero h
 subst this
 simp [mayN]
theorem mayN_no2 {k : ByteArray} {l m : List Dot} (h : 0 < m.length) : mayN (k, l, m) = false := by
 have : m ≠ [] := fun e => by rw [e] at h; simp at h
 simp [mayN, this]
theorem mayN_no3 {k : ByteArray} {l m : List Dot} (h : rowsB l = false) : mayN (k, l, m) = false := by simp [mayN, h]
theorem mayN_no0 {k : ByteArray} {l m : List Dot} (h : mayK k = false) : mayN (k, l, m) = false := by simp [mayN, h]
set_option maxHeartbeats 8000000 in
theorem MayS_ref (a : Option Addr) (n cap : Nat) (s : List En) (w : World) (hA : NSS w a n s) (hbd : ∀ x ∈ s, x.2.1.length ≤ 100000) : Calls Tryz.prog 40 #[.slice a n cap] w fun e w' => e = .returned (.bool (mayS s)) ∧ Below w.heap.size w w' := by
 have HV := hide hA
 have hmx := hA.max
 have HLEN := hide hA.len
 have HBD := hide hbd
 unfold maxLen at hmx
 clear hA hbd
 go_enter Tryz.func40, Tryz.ntmps40
 go_wp2
 go_loopw [3] (fun i wr => ∃ k : Nat, k ≤ n ∧ i = .int .i64 k ∧ Hid ((s.take k).all mayN = true ∧ SrtK (s.take k)) ∧ Hid (Below w.heap.size w wr)) (fun i _ => n - (intOf i).toNat)
 case atStart => exact ⟨0, by omega, rfl, (show _ ∧ _ by simp [SrtK]), Below.refl _ _⟩
 case round =>
  obtain ⟨k0, hk, rfl, HF, HB⟩ := hrel
  by_cases hlt : k0 < n
  ·obtain ⟨b, off, rfl⟩ := HV.out.addr (by omega)
   obtain ⟨k, pl, nl, cl, pd, nd, cd, ll, mm, hx, c0, c1, c2, hdl, hcl, hdd, hcd⟩ := (HV.out.below HB.out).at k0 hlt
   have hk0 : (0 : Int) ≤ (k0 : Int) := by omega
   have hk1 : (k0 : Int) < (n : Int) := by omega
   have HX := hide hx
   have HL := hide hdl
   have HD := hide hdd
   have hnl : nl ≤ 100000 := by rw [← hdl.1]; exact HBD.out _ (List.mem_of_getElem? hx)
   clear hx hcl hcd hdl hdd
   rcases hm : mayK k with _ | _
   ·have HK := hide hm
    have HNO : Hid (mayS s = false) := set_may HX.out (mayN_no0 hm)
    clear hm
    go_upto_region 4 with fail
    refine wp_region_held_drew (S := fun W => Below wr.heap.size wr W) (by kernel_rfl) ((Below.refl _ wr).drew) (fun hS0 => ?_)
    refine tkJ 0 10 hS0 ?_; simp only [ly]
    refine tkJ 1 11 hS0 ?_; simp only [ly]
    refine tkJ 2 12 hS0 ?_; simp only [ly]
    refine tkJ 3 13 hS0 ?_; simp only [ly]
    refine tkL 4 14 hS0 ?h ?_; case h => (intro W hW; have e0 := bcell hW c0; have e1 := bcell hW c1; have e2 := bcell hW c2; clear hW; go_simp; try rfl); simp only [ly]
    refine wpAnyH_ready (rs := [5]) (by kernel_rfl) (by simp) ?_
    refine AllReadyH.cons rfl (fun K hK => ?_) AllReadyH.nil
    go_simp
    refine (KeyR_any k _).mono ?_
    rintro e w' ⟨rfl, hb⟩
    rw [show mayK k = false from HK.out]
    refine hK.out _ _ ?hs6 (fun hS1 => ?_)
    case hs6 => exact bel_next hS0 hb
    clear hK K hb
    try simp only [ly]
    refine tkJ 6 16 hS1 ?_; simp only [ly]
    refine tkJ 7 17 hS1 ?_; simp only [ly]
    refine tkM 8 18 hS1 ?_; simp only [ly]
    refine tkM 9 19 hS1 ?_; simp only [ly]
    refine tkM 10 20 hS1 ?_; simp only [ly]
    refine tkM 11 21 hS1 ?_; simp only [ly]
    refine tkM 12 22 hS1 ?_; simp only [ly]
    refine tkM 13 23 hS1 ?_; simp only [ly]
    refine tkM 14 24 hS1 ?_; simp only [ly]
    refine tkM 15 25 hS1 ?_; simp only [ly]
    refine tkM 16 26 hS1 ?_; simp only [ly]
    refine tkM 17 27 hS1 ?_; simp only [ly]
    refine tkM 18 28 hS1 ?_; simp only [ly]
    refine tkM 19 29 hS1 ?_; simp only [ly]
    refine tkM 20 30 hS1 ?_; simp only [ly]
    refine tkM 21 31 hS1 ?_; simp only [ly]
    refine tkM 22 32 hS1 ?_; simp only [ly]
    refine tkM 23 33 hS1 ?_; simp only [ly]
    refine tkJ 24 34 hS1 ?_; simp only [ly]
    refine tkJ 25 35 hS1 ?_; simp only [ly]
    refine tkM 26 36 hS1 ?_; simp only [ly]
    refine tkM 27 37 hS1 ?_; simp only [ly]
    refine tkM 28 38 hS1 ?_; simp only [ly]
    refine tkM 29 39 hS1 ?_; simp only [ly]
    refine tkM 30 40 hS1 ?_; simp only [ly]
    refine tkM 31 41 hS1 ?_; simp only [ly]
    refine tkM 32 42 hS1 ?_; simp only [ly]
    refine tkJ 33 43 hS1 ?_; simp only [ly]
    refine tkJ 34 44 hS1 ?_; simp only [ly]
    refine tkM 35 45 hS1 ?_; simp only [ly]
    refine tkM 36 46 hS1 ?_; simp only [ly]
    refine tkM 37 47 hS1 ?_; simp only [ly]
    refine tkM 38 48 hS1 ?_; simp only [ly]
    refine tkM 39 49 hS1 ?_; simp only [ly]
    refine tkM 40 50 hS1 ?_; simp only [ly]
    refine tkM 41 51 hS1 ?_; simp only [ly]
    refine tkJ 42 52 hS1 ?_; simp only [ly]
    refine tkJ 43 53 hS1 ?_; simp only [ly]
    refine tkM 44 54 hS1 ?_; simp only [ly]
    refine tkM 45 55 hS1 ?_; simp only [ly]
    refine tkM 46 56 hS1 ?_; simp only [ly]
    refine tkM 47 57 hS1 ?_; simp only [ly]
    refine tkM 48 58 hS1 ?_; simp only [ly]
    refine tkM 49 59 hS1 ?_; simp only [ly]
    refine tkM 50 60 hS1 ?_; simp only [ly]
    refine tkJ 51 61 hS1 ?_; simp only [ly]
    refine wpAnyH_done (by kernel_rfl) ?_ _
    go_wp2
    go_ret
    exact ⟨by rw [HNO.out]; rfl, bel_next HB.out hS1⟩
   ·have HK := hide hm
    clear hm
    rcases k0 with _ | j
    ·simp only [Nat.zero_mul, Nat.add_zero] at c0 c1 c2
     go_upto_region 4 with fail
     by_cases hl0 : nl = 0
     ·subst hl0
      have HNO : Hid (mayS s = false) := set_may HX.out (mayN_no1 (by have := HL.out.1; omega))
      refine wp_region_held_drew (S := fun W => Below wr.heap.size wr W) (by kernel_rfl) ((Below.refl _ wr).drew) (fun hS0 => ?_)
      refine tkJ 0 10 hS0 ?_; simp only [ly]
      refine tkJ 1 11 hS0 ?_; simp only [ly]
      refine tkJ 2 12 hS0 ?_; simp only [ly]
      refine tkJ 3 13 hS0 ?_; simp only [ly]
      refine tkL 4 14 hS0 ?h ?_; case h => (intro W hW; have e0 := bcell hW c0; have e1 := bcell hW c1; have e2 := bcell hW c2; clear hW; go_simp; try rfl); simp only [ly]
      refine wpAnyH_ready (rs := [5]) (by kernel_rfl) (by simp) ?_
      refine AllReadyH.cons rfl (fun K hK => ?_) AllReadyH.nil
      go_simp
      refine (KeyR_any k _).mono ?_
      rintro e w' ⟨rfl, hb⟩
      rw [show mayK k = true from HK.out]
      refine hK.out _ _ ?hs21 (fun hS1 => ?_)
      case hs21 => exact bel_next hS0 hb
      clear hK K hb
      try simp only [ly]
      refine tkJ 6 16 hS1 ?_; simp only [ly]
      refine tkJ 7 17 hS1 ?_; simp only [ly]
      refine tkJ 8 18 hS1 ?_; simp only [ly]
      refine tkJ 9 19 hS1 ?_; simp only [ly]
      refine tkJ 10 20 hS1 ?_; simp only [ly]
      refine tkM 11 21 hS1 ?_; simp only [ly]
      refine tkM 12 22 hS1 ?_; simp only [ly]
      refine tkM 13 23 hS1 ?_; simp only [ly]
      refine tkM 14 24 hS1 ?_; simp only [ly]
      refine tkM 15 25 hS1 ?_; simp only [ly]
      refine tkM 16 26 hS1 ?_; simp only [ly]
      refine tkM 17 27 hS1 ?_; simp only [ly]
      refine tkM 18 28 hS1 ?_; simp only [ly]
      refine tkM 19 29 hS1 ?_; simp only [ly]
      refine tkM 20 30 hS1 ?_; simp only [ly]
      refine tkM 21 31 hS1 ?_; simp only [ly]
      refine tkM 22 32 hS1 ?_; simp only [ly]
      refine tkJ 23 33 hS1 ?_; simp only [ly]
      refine tkJ 24 34 hS1 ?_; simp only [ly]
      refine tkJ 25 35 hS1 ?_; simp only [ly]
      refine tkJ 26 36 hS1 ?_; simp only [ly]
      refine tkJ 27 37 hS1 ?_; simp only [ly]
      refine tkJ 28 38 hS1 ?_; simp only [ly]
      refine tkJ 29 39 hS1 ?_; simp only [ly]
      refine tkL 30 40 hS1 ?h ?_; case h => (intro W hW; have e0 := bcell hW c0; have e1 := bcell hW c1; have e2 := bcell hW c2; clear hW; go_simp; try rfl); simp only [ly]
      refine tkJ 31 41 hS1 ?_; simp only [ly]
      refine tkJ 32 42 hS1 ?_; simp only [ly]
      refine tkJ 33 43 hS1 ?_; simp only [ly]
      refine tkJ 34 44 hS1 ?_; simp only [ly]
      refine tkM 35 45 hS1 ?_; simp only [ly]
      refine tkM 36 46 hS1 ?_; simp only [ly]
      refine tkM 37 47 hS1 ?_; simp only [ly]
      refine tkM 38 48 hS1 ?_; simp only [ly]
      refine tkM 39 49 hS1 ?_; simp only [ly]
      refine tkM 40 50 hS1 ?_; simp only [ly]
      refine tkM 41 51 hS1 ?_; simp only [ly]
      refine tkJ 42 52 hS1 ?_; simp only [ly]
      refine tkJ 43 53 hS1 ?_; simp only [ly]
      refine tkM 44 54 hS1 ?_; simp only [ly]
      refine tkM 45 55 hS1 ?_; simp only [ly]
      refine tkM 46 56 hS1 ?_; simp only [ly]
      refine tkM 47 57 hS1 ?_; simp only [ly]
      refine tkM 48 58 hS1 ?_; simp only [ly]
      refine tkM 49 59 hS1 ?_; simp only [ly]
      refine tkM 50 60 hS1 ?_; simp only [ly]
      refine tkJ 51 61 hS1 ?_; simp only [ly]
      refine wpAnyH_done (by kernel_rfl) ?_ _
      go_wp2
      go_ret
      exact ⟨by rw [HNO.out]; rfl, bel_next HB.out hS1⟩
     ·have hl2 : ((nl : Int) == 0) = false := by rw [beq_eq_false_iff_ne]; omega
      by_cases hd0 : 0 < nd
      ·have hd1 : (0 : Int) < (nd : Int) := by omega
       have HNO : Hid (mayS s = false) := set_may HX.out (mayN_no2 (by have := HD.out.1; omega))
       refine wp_region_held_drew (S := fun W => Below wr.heap.size wr W) (by kernel_rfl) ((Below.refl _ wr).drew) (fun hS0 => ?_)
       refine tkJ 0 10 hS0 ?_; simp only [ly]
       refine tkJ 1 11 hS0 ?_; simp only [ly]
       refine tkJ 2 12 hS0 ?_; simp only [ly]
       refine tkJ 3 13 hS0 ?_; simp only [ly]
       refine tkL 4 14 hS0 ?h ?_; case h => (intro W hW; have e0 := bcell hW c0; have e1 := bcell hW c1; have e2 := bcell hW c2; clear hW; go_simp; try rfl); simp only [ly]
       refine wpAnyH_ready (rs := [5]) (by kernel_rfl) (by simp) ?_
       refine AllReadyH.cons rfl (fun K hK => ?_) AllReadyH.nil
       go_simp
       refine (KeyR_any k _).mono ?_
       rintro e w' ⟨rfl, hb⟩
       rw [show mayK k = true from HK.out]
       refine hK.out _ _ ?hs47 (fun hS1 => ?_)
       case hs47 => exact bel_next hS0 hb
       clear hK K hb
       try simp only [ly]
       refine tkJ 6 16 hS1 ?_; simp only [ly]
       refine tkJ 7 17 hS1 ?_; simp only [ly]
       refine tkJ 8 18 hS1 ?_; simp only [ly]
       refine tkJ 9 19 hS1 ?_; simp only [ly]
       refine tkJ 10 20 hS1 ?_; simp only [ly]
       refine tkM 11 21 hS1 ?_; simp only [ly]
       refine tkM 12 22 hS1 ?_; simp only [ly]
       refine tkM 13 23 hS1 ?_; simp only [ly]
       refine tkM 14 24 hS1 ?_; simp only [ly]
       refine tkM 15 25 hS1 ?_; simp only [ly]
       refine tkM 16 26 hS1 ?_; simp only [ly]
       refine tkM 17 27 hS1 ?_; simp only [ly]
       refine tkM 18 28 hS1 ?_; simp only [ly]
       refine tkM 19 29 hS1 ?_; simp only [ly]
       refine tkM 20 30 hS1 ?_; simp only [ly]
       refine tkM 21 31 hS1 ?_; simp only [ly]
       refine tkM 22 32 hS1 ?_; simp only [ly]
       refine tkJ 23 33 hS1 ?_; simp only [ly]
       refine tkJ 24 34 hS1 ?_; simp only [ly]
       refine tkJ 25 35 hS1 ?_; simp only [ly]
       refine tkJ 26 36 hS1 ?_; simp only [ly]
       refine tkJ 27 37 hS1 ?_; simp only [ly]
       refine tkJ 28 38 hS1 ?_; simp only [ly]
       refine tkJ 29 39 hS1 ?_; simp only [ly]
       refine tkL 30 40 hS1 ?h ?_; case h => (intro W hW; have e0 := bcell hW c0; have e1 := bcell hW c1; have e2 := bcell hW c2; clear hW; go_simp; try rfl); simp only [ly]
       refine tkJ 31 41 hS1 ?_; simp only [ly]
       refine tkJ 32 42 hS1 ?_; simp only [ly]
       refine tkJ 33 43 hS1 ?_; simp only [ly]
       refine tkJ 34 44 hS1 ?_; simp only [ly]
       refine tkJ 35 45 hS1 ?_; simp only [ly]
       refine tkJ 36 46 hS1 ?_; simp only [ly]
       refine tkJ 37 47 hS1 ?_; simp only [ly]
       refine tkJ 38 48 hS1 ?_; simp only [ly]
       refine tkL 39 49 hS1 ?h ?_; case h => (intro W hW; have e0 := bcell hW c0; have e1 := bcell hW c1; have e2 := bcell hW c2; clear hW; go_simp; try rfl); simp only [ly]
       refine tkJ 40 50 hS1 ?_; simp only [ly]
       refine tkJ 41 51 hS1 ?_; simp only [ly]
       refine tkJ 42 52 hS1 ?_; simp only [ly]
       refine tkJ 43 53 hS1 ?_; simp only [ly]
       refine tkM 44 54 hS1 ?_; simp only [ly]
       refine tkM 45 55 hS1 ?_; simp only [ly]
       refine tkM 46 56 hS1 ?_; simp only [ly]
       refine tkM 47 57 hS1 ?_; simp only [ly]
       refine tkM 48 58 hS1 ?_; simp only [ly]
       refine tkM 49 59 hS1 ?_; simp only [ly]
       refine tkM 50 60 hS1 ?_; simp only [ly]
       refine tkJ 51 61 hS1 ?_; simp only [ly]
       refine wpAnyH_done (by kernel_rfl) ?_ _
       go_wp2
       go_ret
       exact ⟨by rw [HNO.out]; rfl, bel_next HB.out hS1⟩
      ·obtain rfl : nd = 0 := by omega
       rcases hr : rowsB ll with _ | _
       ·have HRW := hide hr
        have HNO : Hid (mayS s = false) := set_may HX.out (mayN_no3 hr)
        clear hr
        refine wp_region_held_drew (S := fun W => Below wr.heap.size wr W) (by kernel_rfl) ((Below.refl _ wr).drew) (fun hS0 => ?_)
        refine tkJ 0 10 hS0 ?_; simp only [ly]
        refine tkJ 1 11 hS0 ?_; simp only [ly]
        refine tkJ 2 12 hS0 ?_; simp only [ly]
        refine tkJ 3 13 hS0 ?_; simp only [ly]
        refine tkL 4 14 hS0 ?h ?_; case h => (intro W hW; have e0 := bcell hW c0; have e1 := bcell hW c1; have e2 := bcell hW c2; clear hW; go_simp; try rfl); simp only [ly]
        refine wpAnyH_ready (rs := [5]) (by kernel_rfl) (by simp) ?_
        refine AllReadyH.cons rfl (fun K hK => ?_) AllReadyH.nil
        go_simp
        refine (KeyR_any k _).mono ?_
        rintro e w' ⟨rfl, hb⟩
        rw [show mayK k = true from HK.out]
        refine hK.out _ _ ?hs80 (fun hS1 => ?_)
        case hs80 => exact bel_next hS0 hb
        clear hK K hb
        try simp only [ly]
        refine tkJ 6 16 hS1 ?_; simp only [ly]
        refine tkJ 7 17 hS1 ?_; simp only [ly]
        refine tkJ 8 18 hS1 ?_; simp only [ly]
        refine tkJ 9 19 hS1 ?_; simp only [ly]
        refine tkJ 10 20 hS1 ?_; simp only [ly]
        refine tkM 11 21 hS1 ?_; simp only [ly]
        refine tkM 12 22 hS1 ?_; simp only [ly]
        refine tkM 13 23 hS1 ?_; simp only [ly]
        refine tkM 14 24 hS1 ?_; simp only [ly]
        refine tkM 15 25 hS1 ?_; simp only [ly]
        refine tkM 16 26 hS1 ?_; simp only [ly]
        refine tkM 17 27 hS1 ?_; simp only [ly]
        refine tkM 18 28 hS1 ?_; simp only [ly]
        refine tkM 19 29 hS1 ?_; simp only [ly]
        refine tkM 20 30 hS1 ?_; simp only [ly]
        refine tkM 21 31 hS1 ?_; simp only [ly]
        refine tkM 22 32 hS1 ?_; simp only [ly]
        refine tkJ 23 33 hS1 ?_; simp only [ly]
        refine tkJ 24 34 hS1 ?_; simp only [ly]
        refine tkJ 25 35 hS1 ?_; simp only [ly]
        refine tkJ 26 36 hS1 ?_; simp only [ly]
        refine tkJ 27 37 hS1 ?_; simp only [ly]
        refine tkJ 28 38 hS1 ?_; simp only [ly]
        refine tkJ 29 39 hS1 ?_; simp only [ly]
        refine tkL 30 40 hS1 ?h ?_; case h => (intro W hW; have e0 := bcell hW c0; have e1 := bcell hW c1; have e2 := bcell hW c2; clear hW; go_simp; try rfl); simp only [ly]
        refine tkJ 31 41 hS1 ?_; simp only [ly]
        refine tkJ 32 42 hS1 ?_; simp only [ly]
        refine tkJ 33 43 hS1 ?_; simp only [ly]
        refine tkJ 34 44 hS1 ?_; simp only [ly]
        refine tkJ 35 45 hS1 ?_; simp only [ly]
        refine tkJ 36 46 hS1 ?_; simp only [ly]
        refine tkJ 37 47 hS1 ?_; simp only [ly]
        refine tkJ 38 48 hS1 ?_; simp only [ly]
        refine tkL 39 49 hS1 ?h ?_; case h => (intro W hW; have e0 := bcell hW c0; have e1 := bcell hW c1; have e2 := bcell hW c2; clear hW; go_simp; try rfl); simp only [ly]
        refine tkJ 40 50 hS1 ?_; simp only [ly]
        refine tkJ 41 51 hS1 ?_; simp only [ly]
        refine tkJ 42 52 hS1 ?_; simp only [ly]
        refine tkJ 43 53 hS1 ?_; simp only [ly]
        refine tkJ 44 54 hS1 ?_; simp only [ly]
        refine tkJ 45 55 hS1 ?_; simp only [ly]
        refine tkJ 46 56 hS1 ?_; simp only [ly]
        refine tkJ 47 57 hS1 ?_; simp only [ly]
        refine tkL 48 58 hS1 ?h ?_; case h => (intro W hW; have e0 := bcell hW c0; have e1 := bcell hW c1; have e2 := bcell hW c2; clear hW; go_simp; try rfl); simp only [ly]
        refine wpAnyH_ready (rs := [49]) (by kernel_rfl) (by simp) ?_
        refine AllReadyH.cons rfl (fun K hK => ?_) AllReadyH.nil
        go_simp
        refine (RowsR_any pl nl cl ll _ (HL.out.below hS1) (by omega)).mono ?_
        rintro e w' ⟨rfl, hb⟩
        rw [show rowsB ll = false from HRW.out]
        refine hK.out _ _ ?hs112 (fun hS2 => ?_)
        case hs112 => exact bel_next hS1 hb
        clear hK K hb
        try simp only [ly]
        refine tkJ 50 60 hS2 ?_; simp only [ly]
        refine tkJ 51 61 hS2 ?_; simp only [ly]
        refine wpAnyH_done (by kernel_rfl) ?_ _
        go_wp2
        go_ret
        exact ⟨by rw [HNO.out]; rfl, bel_next HB.out hS2⟩
       ·have HRW := hide hr
        have HF2 := hide (set_step HX.out HF.out (mayN_yes HK.out (by have := HL.out.1; omega) (by have := HD.out.1; omega) hr) (fun j c h => by omega))
        clear hr
        refine wp_region_held_drew (S := fun W => Below wr.heap.size wr W) (by kernel_rfl) ((Below.refl _ wr).drew) (fun hS0 => ?_)
        refine tkJ 0 10 hS0 ?_; simp only [ly]
        refine tkJ 1 11 hS0 ?_; simp only [ly]
        refine tkJ 2 12 hS0 ?_; simp only [ly]
        refine tkJ 3 13 hS0 ?_; simp only [ly]
        refine tkL 4 14 hS0 ?h ?_; case h => (intro W hW; have e0 := bcell hW c0; have e1 := bcell hW c1; have e2 := bcell hW c2; clear hW; go_simp; try rfl); simp only [ly]
        refine wpAnyH_ready (rs := [5]) (by kernel_rfl) (by simp) ?_
        refine AllReadyH.cons rfl (fun K hK => ?_) AllReadyH.nil
        go_simp
        refine (KeyR_any k _).mono ?_
        rintro e w' ⟨rfl, hb⟩
        rw [show mayK k = true from HK.out]
        refine hK.out _ _ ?hs120 (fun hS1 => ?_)
        case hs120 => exact bel_next hS0 hb
        clear hK K hb
        try simp only [ly]
        refine tkJ 6 16 hS1 ?_; simp only [ly]
        refine tkJ 7 17 hS1 ?_; simp only [ly]
        refine tkJ 8 18 hS1 ?_; simp only [ly]
        refine tkJ 9 19 hS1 ?_; simp only [ly]
        refine tkJ 10 20 hS1 ?_; simp only [ly]
        refine tkM 11 21 hS1 ?_; simp only [ly]
        refine tkM 12 22 hS1 ?_; simp only [ly]
        refine tkM 13 23 hS1 ?_; simp only [ly]
        refine tkM 14 24 hS1 ?_; simp only [ly]
        refine tkM 15 25 hS1 ?_; simp only [ly]
        refine tkM 16 26 hS1 ?_; simp only [ly]
        refine tkM 17 27 hS1 ?_; simp only [ly]
        refine tkM 18 28 hS1 ?_; simp only [ly]
        refine tkM 19 29 hS1 ?_; simp only [ly]
        refine tkM 20 30 hS1 ?_; simp only [ly]
        refine tkM 21 31 hS1 ?_; simp only [ly]
        refine tkM 22 32 hS1 ?_; simp only [ly]
        refine tkJ 23 33 hS1 ?_; simp only [ly]
        refine tkJ 24 34 hS1 ?_; simp only [ly]
        refine tkJ 25 35 hS1 ?_; simp only [ly]
        refine tkJ 26 36 hS1 ?_; simp only [ly]
        refine tkJ 27 37 hS1 ?_; simp only [ly]
        refine tkJ 28 38 hS1 ?_; simp only [ly]
        refine tkJ 29 39 hS1 ?_; simp only [ly]
        refine tkL 30 40 hS1 ?h ?_; case h => (intro W hW; have e0 := bcell hW c0; have e1 := bcell hW c1; have e2 := bcell hW c2; clear hW; go_simp; try rfl); simp only [ly]
        refine tkJ 31 41 hS1 ?_; simp only [ly]
        refine tkJ 32 42 hS1 ?_; simp only [ly]
        refine tkJ 33 43 hS1 ?_; simp only [ly]
        refine tkJ 34 44 hS1 ?_; simp only [ly]
        refine tkJ 35 45 hS1 ?_; simp only [ly]
        refine tkJ 36 46 hS1 ?_; simp only [ly]
        refine tkJ 37 47 hS1 ?_; simp only [ly]
        refine tkJ 38 48 hS1 ?_; simp only [ly]
        refine tkL 39 49 hS1 ?h ?_; case h => (intro W hW; have e0 := bcell hW c0; have e1 := bcell hW c1; have e2 := bcell hW c2; clear hW; go_simp; try rfl); simp only [ly]
        refine tkJ 40 50 hS1 ?_; simp only [ly]
        refine tkJ 41 51 hS1 ?_; simp only [ly]
        refine tkJ 42 52 hS1 ?_; simp only [ly]
        refine tkJ 43 53 hS1 ?_; simp only [ly]
        refine tkJ 44 54 hS1 ?_; simp only [ly]
        refine tkJ 45 55 hS1 ?_; simp only [ly]
        refine tkJ 46 56 hS1 ?_; simp only [ly]
        refine tkJ 47 57 hS1 ?_; simp only [ly]
        refine tkL 48 58 hS1 ?h ?_; case h => (intro W hW; have e0 := bcell hW c0; have e1 := bcell hW c1; have e2 := bcell hW c2; clear hW; go_simp; try rfl); simp only [ly]
        refine wpAnyH_ready (rs := [49]) (by kernel_rfl) (by simp) ?_
        refine AllReadyH.cons rfl (fun K hK => ?_) AllReadyH.nil
        go_simp
        refine (RowsR_any pl nl cl ll _ (HL.out.below hS1) (by omega)).mono ?_
        rintro e w' ⟨rfl, hb⟩
        rw [show rowsB ll = true from HRW.out]
        refine hK.out _ _ ?hs152 (fun hS2 => ?_)
        case hs152 => exact bel_next hS1 hb
        clear hK K hb
        try simp only [ly]
        refine tkJ 50 60 hS2 ?_; simp only [ly]
        refine tkJ 51 61 hS2 ?_; simp only [ly]
        refine wpAnyH_done (by kernel_rfl) ?_ _
        go_wp2
        go_roundw
        case rel => exact ⟨0 + 1, by omega, by go_num, HF2, (show Hid _ from bel_next HB.out hS2)⟩
        case measure => simp [intOf]; omega
    ·obtain ⟨kp, pl', nl', cl', pd', nd', cd', ll', mm', hp, p0, _, _, _, _, _, _⟩ := (HV.out.below HB.out).at j (by omega)
     have HP := hide hp
     clear hp
     have hwj := wrapN (show j ≤ 9223372036854775807 by omega)
     have hj0 : ((j : Int)) + 1 < (n : Int) := by omega
     have hj1 : (j : Int) < (n : Int) := by omega
     have hj2 : (0 : Int) ≤ (j : Int) := by omega
     rcases hlt2 : ltK kp k with _ | _
     ·have HNO : Hid (mayS s = false) := set_less HP.out HX.out hlt2
      rcases hq : Op.bytesLess k.toList kp.toList with _ | _
      ·have hqe : (k.toList == kp.toList) = true := by rw [eqK, decide_eq_true_iff]; exact ltK_tri hq hlt2
       go_upto_region 4 with fail
       refine wp_region_held_drew (S := fun W => Below wr.heap.size wr W) (by kernel_rfl) ((Below.refl _ wr).drew) (fun hS0 => ?_)
       refine tkJ 0 10 hS0 ?_; simp only [ly]
       refine tkJ 1 11 hS0 ?_; simp only [ly]
       refine tkJ 2 12 hS0 ?_; simp only [ly]
       refine tkJ 3 13 hS0 ?_; simp only [ly]
       refine tkL 4 14 hS0 ?h ?_; case h => (intro W hW; have e0 := bcell hW c0; have e1 := bcell hW c1; have e2 := bcell hW c2; have e3 := bcell hW p0; clear hW; go_simp; try rfl); simp only [ly]
       refine wpAnyH_ready (rs := [5]) (by kernel_rfl) (by simp) ?_
       refine AllReadyH.cons rfl (fun K hK => ?_) AllReadyH.nil
       go_simp
       refine (KeyR_any k _).mono ?_
       rintro e w' ⟨rfl, hb⟩
       rw [show mayK k = true from HK.out]
       refine hK.out _ _ ?hs160 (fun hS1 => ?_)
       case hs160 => exact bel_next hS0 hb
       clear hK K hb
       try simp only [ly]
       refine tkJ 6 16 hS1 ?_; simp only [ly]
       refine tkJ 7 17 hS1 ?_; simp only [ly]
       refine tkJ 8 18 hS1 ?_; simp only [ly]
       refine tkJ 9 19 hS1 ?_; simp only [ly]
       refine tkJ 10 20 hS1 ?_; simp only [ly]
       refine tkJ 11 21 hS1 ?_; simp only [ly]
       refine tkJ 12 22 hS1 ?_; simp only [ly]
       refine tkJ 13 23 hS1 ?_; simp only [ly]
       refine tkJ 14 24 hS1 ?_; simp only [ly]
       refine tkL 15 25 hS1 ?h ?_; case h => (intro W hW; have e0 := bcell hW c0; have e1 := bcell hW c1; have e2 := bcell hW c2; have e3 := bcell hW p0; clear hW; go_simp; try rfl); simp only [ly]
       refine tkJ 16 26 hS1 ?_; simp only [ly]
       refine tkJ 17 27 hS1 ?_; simp only [ly]
       refine tkJ 18 28 hS1 ?_; simp only [ly]
       refine tkJ 19 29 hS1 ?_; simp only [ly]
       refine tkJ 20 30 hS1 ?_; simp only [ly]
       refine tkL 21 31 hS1 ?h ?_; case h => (intro W hW; have e0 := bcell hW c0; have e1 := bcell hW c1; have e2 := bcell hW c2; have e3 := bcell hW p0; clear hW; go_simp; try rfl); simp only [ly]
       refine tkJ 22 32 hS1 ?_; simp only [ly]
       refine tkJ 23 33 hS1 ?_; simp only [ly]
       refine tkJ 24 34 hS1 ?_; simp only [ly]
       refine tkJ 25 35 hS1 ?_; simp only [ly]
       refine tkM 26 36 hS1 ?_; simp only [ly]
       refine tkM 27 37 hS1 ?_; simp only [ly]
       refine tkM 28 38 hS1 ?_; simp only [ly]
       refine tkM 29 39 hS1 ?_; simp only [ly]
       refine tkM 30 40 hS1 ?_; simp only [ly]
       refine tkM 31 41 hS1 ?_; simp only [ly]
       refine tkM 32 42 hS1 ?_; simp only [ly]
       refine tkJ 33 43 hS1 ?_; simp only [ly]
       refine tkJ 34 44 hS1 ?_; simp only [ly]
       refine tkM 35 45 hS1 ?_; simp only [ly]
       refine tkM 36 46 hS1 ?_; simp only [ly]
       refine tkM 37 47 hS1 ?_; simp only [ly]
       refine tkM 38 48 hS1 ?_; simp only [ly]
       refine tkM 39 49 hS1 ?_; simp only [ly]
       refine tkM 40 50 hS1 ?_; simp only [ly]
       refine tkM 41 51 hS1 ?_; simp only [ly]
       refine tkJ 42 52 hS1 ?_; simp only [ly]
       refine tkJ 43 53 hS1 ?_; simp only [ly]
       refine tkM 44 54 hS1 ?_; simp only [ly]
       refine tkM 45 55 hS1 ?_; simp only [ly]
       refine tkM 46 56 hS1 ?_; simp only [ly]
       refine tkM 47 57 hS1 ?_; simp only [ly]
       refine tkM 48 58 hS1 ?_; simp only [ly]
       refine tkM 49 59 hS1 ?_; simp only [ly]
       refine tkM 50 60 hS1 ?_; simp only [ly]
       refine tkJ 51 61 hS1 ?_; simp only [ly]
       refine wpAnyH_done (by kernel_rfl) ?_ _
       go_wp2
       go_ret
       exact ⟨by rw [HNO.out]; rfl, bel_next HB.out hS1⟩
      ·go_upto_region 4 with fail
       refine wp_region_held_drew (S := fun W => Below wr.heap.size wr W) (by kernel_rfl) ((Below.refl _ wr).drew) (fun hS0 => ?_)
       refine tkJ 0 10 hS0 ?_; simp only [ly]
       refine tkJ 1 11 hS0 ?_; simp only [ly]
       refine tkJ 2 12 hS0 ?_; simp only [ly]
       refine tkJ 3 13 hS0 ?_; simp only [ly]
       refine tkL 4 14 hS0 ?h ?_; case h => (intro W hW; have e0 := bcell hW c0; have e1 := bcell hW c1; have e2 := bcell hW c2; have e3 := bcell hW p0; clear hW; go_simp; try rfl); simp only [ly]
       refine wpAnyH_ready (rs := [5]) (by kernel_rfl) (by simp) ?_
       refine AllReadyH.cons rfl (fun K hK => ?_) AllReadyH.nil
       go_simp
       refine (KeyR_any k _).mono ?_
       rintro e w' ⟨rfl, hb⟩
       rw [show mayK k = true from HK.out]
       refine hK.out _ _ ?hs191 (fun hS1 => ?_)
       case hs191 => exact bel_next hS0 hb
       clear hK K hb
       try simp only [ly]
       refine tkJ 6 16 hS1 ?_; simp only [ly]
       refine tkJ 7 17 hS1 ?_; simp only [ly]
       refine tkJ 8 18 hS1 ?_; simp only [ly]
       refine tkJ 9 19 hS1 ?_; simp only [ly]
       refine tkJ 10 20 hS1 ?_; simp only [ly]
       refine tkJ 11 21 hS1 ?_; simp only [ly]
       refine tkJ 12 22 hS1 ?_; simp only [ly]
       refine tkJ 13 23 hS1 ?_; simp only [ly]
       refine tkJ 14 24 hS1 ?_; simp only [ly]
       refine tkL 15 25 hS1 ?h ?_; case h => (intro W hW; have e0 := bcell hW c0; have e1 := bcell hW c1; have e2 := bcell hW c2; have e3 := bcell hW p0; clear hW; go_simp; try rfl); simp only [ly]
       refine tkJ 16 26 hS1 ?_; simp only [ly]
       refine tkJ 17 27 hS1 ?_; simp only [ly]
       refine tkJ 18 28 hS1 ?_; simp only [ly]
       refine tkJ 19 29 hS1 ?_; simp only [ly]
       refine tkJ 20 30 hS1 ?_; simp only [ly]
       refine tkL 21 31 hS1 ?h ?_; case h => (intro W hW; have e0 := bcell hW c0; have e1 := bcell hW c1; have e2 := bcell hW c2; have e3 := bcell hW p0; clear hW; go_simp; try rfl); simp only [ly]
       refine tkJ 22 32 hS1 ?_; simp only [ly]
       refine tkJ 23 33 hS1 ?_; simp only [ly]
       refine tkJ 24 34 hS1 ?_; simp only [ly]
       refine tkJ 25 35 hS1 ?_; simp only [ly]
       refine tkM 26 36 hS1 ?_; simp only [ly]
       refine tkM 27 37 hS1 ?_; simp only [ly]
       refine tkM 28 38 hS1 ?_; simp only [ly]
       refine tkM 29 39 hS1 ?_; simp only [ly]
       refine tkM 30 40 hS1 ?_; simp only [ly]
       refine tkM 31 41 hS1 ?_; simp only [ly]
       refine tkM 32 42 hS1 ?_; simp only [ly]
       refine tkJ 33 43 hS1 ?_; simp only [ly]
       refine tkJ 34 44 hS1 ?_; simp only [ly]
       refine tkM 35 45 hS1 ?_; simp only [ly]
       refine tkM 36 46 hS1 ?_; simp only [ly]
       refine tkM 37 47 hS1 ?_; simp only [ly]
       refine tkM 38 48 hS1 ?_; simp only [ly]
       refine tkM 39 49 hS1 ?_; simp only [ly]
       refine tkM 40 50 hS1 ?_; simp only [ly]
       refine tkM 41 51 hS1 ?_; simp only [ly]
       refine tkJ 42 52 hS1 ?_; simp only [ly]
       refine tkJ 43 53 hS1 ?_; simp only [ly]
       refine tkM 44 54 hS1 ?_; simp only [ly]
       refine tkM 45 55 hS1 ?_; simp only [ly]
       refine tkM 46 56 hS1 ?_; simp only [ly]
       refine tkM 47 57 hS1 ?_; simp only [ly]
       refine tkM 48 58 hS1 ?_; simp only [ly]
       refine tkM 49 59 hS1 ?_; simp only [ly]
       refine tkM 50 60 hS1 ?_; simp only [ly]
       refine tkJ 51 61 hS1 ?_; simp only [ly]
       refine wpAnyH_done (by kernel_rfl) ?_ _
       go_wp2
       go_ret
       exact ⟨by rw [HNO.out]; rfl, bel_next HB.out hS1⟩
     ·have hq : Op.bytesLess k.toList kp.toList = false := ltK_asym hlt2
      have hqe : (k.toList == kp.toList) = false := by rw [eqK, decide_eq_false_iff_not]; exact (ltK_ne hlt2).symm
      go_upto_region 4 with fail
      by_cases hl0 : nl = 0
      ·subst hl0
       have HNO : Hid (mayS s = false) := set_may HX.out (mayN_no1 (by have := HL.out.1; omega))
       refine wp_region_held_drew (S := fun W => Below wr.heap.size wr W) (by kernel_rfl) ((Below.refl _ wr).drew) (fun hS0 => ?_)
       refine tkJ 0 10 hS0 ?_; simp only [ly]
       refine tkJ 1 11 hS0 ?_; simp only [ly]
       refine tkJ 2 12 hS0 ?_; simp only [ly]
       refine tkJ 3 13 hS0 ?_; simp only [ly]
       refine tkL 4 14 hS0 ?h ?_; case h => (intro W hW; have e0 := bcell hW c0; have e1 := bcell hW c1; have e2 := bcell hW c2; have e3 := bcell hW p0; clear hW; go_simp; try rfl); simp only [ly]
       refine wpAnyH_ready (rs := [5]) (by kernel_rfl) (by simp) ?_
       refine AllReadyH.cons rfl (fun K hK => ?_) AllReadyH.nil
       go_simp
       refine (KeyR_any k _).mono ?_
       rintro e w' ⟨rfl, hb⟩
       rw [show mayK k = true from HK.out]
       refine hK.out _ _ ?hs222 (fun hS1 => ?_)
       case hs222 => exact bel_next hS0 hb
       clear hK K hb
       try simp only [ly]
       refine tkJ 6 16 hS1 ?_; simp only [ly]
       refine tkJ 7 17 hS1 ?_; simp only [ly]
       refine tkJ 8 18 hS1 ?_; simp only [ly]
       refine tkJ 9 19 hS1 ?_; simp only [ly]
       refine tkJ 10 20 hS1 ?_; simp only [ly]
       refine tkJ 11 21 hS1 ?_; simp only [ly]
       refine tkJ 12 22 hS1 ?_; simp only [ly]
       refine tkJ 13 23 hS1 ?_; simp only [ly]
       refine tkJ 14 24 hS1 ?_; simp only [ly]
       refine tkL 15 25 hS1 ?h ?_; case h => (intro W hW; have e0 := bcell hW c0; have e1 := bcell hW c1; have e2 := bcell hW c2; have e3 := bcell hW p0; clear hW; go_simp; try rfl); simp only [ly]
       refine tkJ 16 26 hS1 ?_; simp only [ly]
       refine tkJ 17 27 hS1 ?_; simp only [ly]
       refine tkJ 18 28 hS1 ?_; simp only [ly]
       refine tkJ 19 29 hS1 ?_; simp only [ly]
       refine tkJ 20 30 hS1 ?_; simp only [ly]
       refine tkL 21 31 hS1 ?h ?_; case h => (intro W hW; have e0 := bcell hW c0; have e1 := bcell hW c1; have e2 := bcell hW c2; have e3 := bcell hW p0; clear hW; go_simp; try rfl); simp only [ly]
       refine tkJ 22 32 hS1 ?_; simp only [ly]
       refine tkJ 23 33 hS1 ?_; simp only [ly]
       refine tkJ 24 34 hS1 ?_; simp only [ly]
       refine tkJ 25 35 hS1 ?_; simp only [ly]
       refine tkJ 26 36 hS1 ?_; simp only [ly]
       refine tkJ 27 37 hS1 ?_; simp only [ly]
       refine tkJ 28 38 hS1 ?_; simp only [ly]
       refine tkJ 29 39 hS1 ?_; simp only [ly]
       refine tkL 30 40 hS1 ?h ?_; case h => (intro W hW; have e0 := bcell hW c0; have e1 := bcell hW c1; have e2 := bcell hW c2; have e3 := bcell hW p0; clear hW; go_simp; try rfl); simp only [ly]
       refine tkJ 31 41 hS1 ?_; simp only [ly]
       refine tkJ 32 42 hS1 ?_; simp only [ly]
       refine tkJ 33 43 hS1 ?_; simp only [ly]
       refine tkJ 34 44 hS1 ?_; simp only [ly]
       refine tkM 35 45 hS1 ?_; simp only [ly]
       refine tkM 36 46 hS1 ?_; simp only [ly]
       refine tkM 37 47 hS1 ?_; simp only [ly]
       refine tkM 38 48 hS1 ?_; simp only [ly]
       refine tkM 39 49 hS1 ?_; simp only [ly]
       refine tkM 40 50 hS1 ?_; simp only [ly]
       refine tkM 41 51 hS1 ?_; simp only [ly]
       refine tkJ 42 52 hS1 ?_; simp only [ly]
       refine tkJ 43 53 hS1 ?_; simp only [ly]
       refine tkM 44 54 hS1 ?_; simp only [ly]
       refine tkM 45 55 hS1 ?_; simp only [ly]
       refine tkM 46 56 hS1 ?_; simp only [ly]
       refine tkM 47 57 hS1 ?_; simp only [ly]
       refine tkM 48 58 hS1 ?_; simp only [ly]
       refine tkM 49 59 hS1 ?_; simp only [ly]
       refine tkM 50 60 hS1 ?_; simp only [ly]
       refine tkJ 51 61 hS1 ?_; simp only [ly]
       refine wpAnyH_done (by kernel_rfl) ?_ _
       go_wp2
       go_ret
       exact ⟨by rw [HNO.out]; rfl, bel_next HB.out hS1⟩
      ·have hl2 : ((nl : Int) == 0) = false := by rw [beq_eq_false_iff_ne]; omega
       by_cases hd0 : 0 < nd
       ·have hd1 : (0 : Int) < (nd : Int) := by omega
        have HNO : Hid (mayS s = false) := set_may HX.out (mayN_no2 (by have := HD.out.1; omega))
        refine wp_region_held_drew (S := fun W => Below wr.heap.size wr W) (by kernel_rfl) ((Below.refl _ wr).drew) (fun hS0 => ?_)
        refine tkJ 0 10 hS0 ?_; simp only [ly]
        refine tkJ 1 11 hS0 ?_; simp only [ly]
        refine tkJ 2 12 hS0 ?_; simp only [ly]
        refine tkJ 3 13 hS0 ?_; simp only [ly]
        refine tkL 4 14 hS0 ?h ?_; case h => (intro W hW; have e0 := bcell hW c0; have e1 := bcell hW c1; have e2 := bcell hW c2; have e3 := bcell hW p0; clear hW; go_simp; try rfl); simp only [ly]
        refine wpAnyH_ready (rs := [5]) (by kernel_rfl) (by simp) ?_
        refine AllReadyH.cons rfl (fun K hK => ?_) AllReadyH.nil
        go_simp
        refine (KeyR_any k _).mono ?_
        rintro e w' ⟨rfl, hb⟩
        rw [show mayK k = true from HK.out]
        refine hK.out _ _ ?hs260 (fun hS1 => ?_)
        case hs260 => exact bel_next hS0 hb
        clear hK K hb
        try simp only [ly]
        refine tkJ 6 16 hS1 ?_; simp only [ly]
        refine tkJ 7 17 hS1 ?_; simp only [ly]
        refine tkJ 8 18 hS1 ?_; simp only [ly]
        refine tkJ 9 19 hS1 ?_; simp only [ly]
        refine tkJ 10 20 hS1 ?_; simp only [ly]
        refine tkJ 11 21 hS1 ?_; simp only [ly]
        refine tkJ 12 22 hS1 ?_; simp only [ly]
        refine tkJ 13 23 hS1 ?_; simp only [ly]
        refine tkJ 14 24 hS1 ?_; simp only [ly]
        refine tkL 15 25 hS1 ?h ?_; case h => (intro W hW; have e0 := bcell hW c0; have e1 := bcell hW c1; have e2 := bcell hW c2; have e3 := bcell hW p0; clear hW; go_simp; try rfl); simp only [ly]
        refine tkJ 16 26 hS1 ?_; simp only [ly]
        refine tkJ 17 27 hS1 ?_; simp only [ly]
        refine tkJ 18 28 hS1 ?_; simp only [ly]
        refine tkJ 19 29 hS1 ?_; simp only [ly]
        refine tkJ 20 30 hS1 ?_; simp only [ly]
        refine tkL 21 31 hS1 ?h ?_; case h => (intro W hW; have e0 := bcell hW c0; have e1 := bcell hW c1; have e2 := bcell hW c2; have e3 := bcell hW p0; clear hW; go_simp; try rfl); simp only [ly]
        refine tkJ 22 32 hS1 ?_; simp only [ly]
        refine tkJ 23 33 hS1 ?_; simp only [ly]
        refine tkJ 24 34 hS1 ?_; simp only [ly]
        refine tkJ 25 35 hS1 ?_; simp only [ly]
        refine tkJ 26 36 hS1 ?_; simp only [ly]
        refine tkJ 27 37 hS1 ?_; simp only [ly]
        refine tkJ 28 38 hS1 ?_; simp only [ly]
        refine tkJ 29 39 hS1 ?_; simp only [ly]
        refine tkL 30 40 hS1 ?h ?_; case h => (intro W hW; have e0 := bcell hW c0; have e1 := bcell hW c1; have e2 := bcell hW c2; have e3 := bcell hW p0; clear hW; go_simp; try rfl); simp only [ly]
        refine tkJ 31 41 hS1 ?_; simp only [ly]
        refine tkJ 32 42 hS1 ?_; simp only [ly]
        refine tkJ 33 43 hS1 ?_; simp only [ly]
        refine tkJ 34 44 hS1 ?_; simp only [ly]
        refine tkJ 35 45 hS1 ?_; simp only [ly]
        refine tkJ 36 46 hS1 ?_; simp only [ly]
        refine tkJ 37 47 hS1 ?_; simp only [ly]
        refine tkJ 38 48 hS1 ?_; simp only [ly]
        refine tkL 39 49 hS1 ?h ?_; case h => (intro W hW; have e0 := bcell hW c0; have e1 := bcell hW c1; have e2 := bcell hW c2; have e3 := bcell hW p0; clear hW; go_simp; try rfl); simp only [ly]
        refine tkJ 40 50 hS1 ?_; simp only [ly]
        refine tkJ 41 51 hS1 ?_; simp only [ly]
        refine tkJ 42 52 hS1 ?_; simp only [ly]
        refine tkJ 43 53 hS1 ?_; simp only [ly]
        refine tkM 44 54 hS1 ?_; simp only [ly]
        refine tkM 45 55 hS1 ?_; simp only [ly]
        refine tkM 46 56 hS1 ?_; simp only [ly]
        refine tkM 47 57 hS1 ?_; simp only [ly]
        refine tkM 48 58 hS1 ?_; simp only [ly]
        refine tkM 49 59 hS1 ?_; simp only [ly]
        refine tkM 50 60 hS1 ?_; simp only [ly]
        refine tkJ 51 61 hS1 ?_; simp only [ly]
        refine wpAnyH_done (by kernel_rfl) ?_ _
        go_wp2
        go_ret
        exact ⟨by rw [HNO.out]; rfl, bel_next HB.out hS1⟩
       ·obtain rfl : nd = 0 := by omega
        rcases hr : rowsB ll with _ | _
        ·have HRW := hide hr
         have HNO : Hid (mayS s = false) := set_may HX.out (mayN_no3 hr)
         clear hr
         refine wp_region_held_drew (S := fun W => Below wr.heap.size wr W) (by kernel_rfl) ((Below.refl _ wr).drew) (fun hS0 => ?_)
         refine tkJ 0 10 hS0 ?_; simp only [ly]
         refine tkJ 1 11 hS0 ?_; simp only [ly]
         refine tkJ 2 12 hS0 ?_; simp only [ly]
         refine tkJ 3 13 hS0 ?_; simp only [ly]
         refine tkL 4 14 hS0 ?h ?_; case h => (intro W hW; have e0 := bcell hW c0; have e1 := bcell hW c1; have e2 := bcell hW c2; have e3 := bcell hW p0; clear hW; go_simp; try rfl); simp only [ly]
         refine wpAnyH_ready (rs := [5]) (by kernel_rfl) (by simp) ?_
         refine AllReadyH.cons rfl (fun K hK => ?_) AllReadyH.nil
         go_simp
         refine (KeyR_any k _).mono ?_
         rintro e w' ⟨rfl, hb⟩
         rw [show mayK k = true from HK.out]
         refine hK.out _ _ ?hs305 (fun hS1 => ?_)
         case hs305 => exact bel_next hS0 hb
         clear hK K hb
         try simp only [ly]
         refine tkJ 6 16 hS1 ?_; simp only [ly]
         refine tkJ 7 17 hS1 ?_; simp only [ly]
         refine tkJ 8 18 hS1 ?_; simp only [ly]
         refine tkJ 9 19 hS1 ?_; simp only [ly]
         refine tkJ 10 20 hS1 ?_; simp only [ly]
         refine tkJ 11 21 hS1 ?_; simp only [ly]
         refine tkJ 12 22 hS1 ?_; simp only [ly]
         refine tkJ 13 23 hS1 ?_; simp only [ly]
         refine tkJ 14 24 hS1 ?_; simp only [ly]
         refine tkL 15 25 hS1 ?h ?_; case h => (intro W hW; have e0 := bcell hW c0; have e1 := bcell hW c1; have e2 := bcell hW c2; have e3 := bcell hW p0; clear hW; go_simp; try rfl); simp only [ly]
         refine tkJ 16 26 hS1 ?_; simp only [ly]
         refine tkJ 17 27 hS1 ?_; simp only [ly]
         refine tkJ 18 28 hS1 ?_; simp only [ly]
         refine tkJ 19 29 hS1 ?_; simp only [ly]
         refine tkJ 20 30 hS1 ?_; simp only [ly]
         refine tkL 21 31 hS1 ?h ?_; case h => (intro W hW; have e0 := bcell hW c0; have e1 := bcell hW c1; have e2 := bcell hW c2; have e3 := bcell hW p0; clear hW; go_simp; try rfl); simp only [ly]
         refine tkJ 22 32 hS1 ?_; simp only [ly]
         refine tkJ 23 33 hS1 ?_; simp only [ly]
         refine tkJ 24 34 hS1 ?_; simp only [ly]
         refine tkJ 25 35 hS1 ?_; simp only [ly]
         refine tkJ 26 36 hS1 ?_; simp only [ly]
         refine tkJ 27 37 hS1 ?_; simp only [ly]
         refine tkJ 28 38 hS1 ?_; simp only [ly]
         refine tkJ 29 39 hS1 ?_; simp only [ly]
         refine tkL 30 40 hS1 ?h ?_; case h => (intro W hW; have e0 := bcell hW c0; have e1 := bcell hW c1; have e2 := bcell hW c2; have e3 := bcell hW p0; clear hW; go_simp; try rfl); simp only [ly]
         refine tkJ 31 41 hS1 ?_; simp only [ly]
         refine tkJ 32 42 hS1 ?_; simp only [ly]
         refine tkJ 33 43 hS1 ?_; simp only [ly]
         refine tkJ 34 44 hS1 ?_; simp only [ly]
         refine tkJ 35 45 hS1 ?_; simp only [ly]
         refine tkJ 36 46 hS1 ?_; simp only [ly]
         refine tkJ 37 47 hS1 ?_; simp only [ly]
         refine tkJ 38 48 hS1 ?_; simp only [ly]
         refine tkL 39 49 hS1 ?h ?_; case h => (intro W hW; have e0 := bcell hW c0; have e1 := bcell hW c1; have e2 := bcell hW c2; have e3 := bcell hW p0; clear hW; go_simp; try rfl); simp only [ly]
         refine tkJ 40 50 hS1 ?_; simp only [ly]
         refine tkJ 41 51 hS1 ?_; simp only [ly]
         refine tkJ 42 52 hS1 ?_; simp only [ly]
         refine tkJ 43 53 hS1 ?_; simp only [ly]
         refine tkJ 44 54 hS1 ?_; simp only [ly]
         refine tkJ 45 55 hS1 ?_; simp only [ly]
         refine tkJ 46 56 hS1 ?_; simp only [ly]
         refine tkJ 47 57 hS1 ?_; simp only [ly]
         refine tkL 48 58 hS1 ?h ?_; case h => (intro W hW; have e0 := bcell hW c0; have e1 := bcell hW c1; have e2 := bcell hW c2; have e3 := bcell hW p0; clear hW; go_simp; try rfl); simp only [ly]
         refine wpAnyH_ready (rs := [49]) (by kernel_rfl) (by simp) ?_
         refine AllReadyH.cons rfl (fun K hK => ?_) AllReadyH.nil
         go_simp
         refine (RowsR_any pl nl cl ll _ (HL.out.below hS1) (by omega)).mono ?_
         rintro e w' ⟨rfl, hb⟩
         rw [show rowsB ll = false from HRW.out]
         refine hK.out _ _ ?hs349 (fun hS2 => ?_)
         case hs349 => exact bel_next hS1 hb
         clear hK K hb
         try simp only [ly]
         refine tkJ 50 60 hS2 ?_; simp only [ly]
         refine tkJ 51 61 hS2 ?_; simp only [ly]
         refine wpAnyH_done (by kernel_rfl) ?_ _
         go_wp2
         go_ret
         exact ⟨by rw [HNO.out]; rfl, bel_next HB.out hS2⟩
        ·have HRW := hide hr
         have HF2 := hide (set_stepS HX.out HP.out HF.out (mayN_yes HK.out (by have := HL.out.1; omega) (by have := HD.out.1; omega) hr) hlt2)
         clear hr
         refine wp_region_held_drew (S := fun W => Below wr.heap.size wr W) (by kernel_rfl) ((Below.refl _ wr).drew) (fun hS0 => ?_)
         refine tkJ 0 10 hS0 ?_; simp only [ly]
         refine tkJ 1 11 hS0 ?_; simp only [ly]
         refine tkJ 2 12 hS0 ?_; simp only [ly]
         refine tkJ 3 13 hS0 ?_; simp only [ly]
         refine tkL 4 14 hS0 ?h ?_; case h => (intro W hW; have e0 := bcell hW c0; have e1 := bcell hW c1; have e2 := bcell hW c2; have e3 := bcell hW p0; clear hW; go_simp; try rfl); simp only [ly]
         refine wpAnyH_ready (rs := [5]) (by kernel_rfl) (by simp) ?_
         refine AllReadyH.cons rfl (fun K hK => ?_) AllReadyH.nil
         go_simp
         refine (KeyR_any k _).mono ?_
         rintro e w' ⟨rfl, hb⟩
         rw [show mayK k = true from HK.out]
         refine hK.out _ _ ?hs357 (fun hS1 => ?_)
         case hs357 => exact bel_next hS0 hb
         clear hK K hb
         try simp only [ly]
         refine tkJ 6 16 hS1 ?_; simp only [ly]
         refine tkJ 7 17 hS1 ?_; simp only [ly]
         refine tkJ 8 18 hS1 ?_; simp only [ly]
         refine tkJ 9 19 hS1 ?_; simp only [ly]
         refine tkJ 10 20 hS1 ?_; simp only [ly]
         refine tkJ 11 21 hS1 ?_; simp only [ly]
         refine tkJ 12 22 hS1 ?_; simp only [ly]
         refine tkJ 13 23 hS1 ?_; simp only [ly]
         refine tkJ 14 24 hS1 ?_; simp only [ly]
         refine tkL 15 25 hS1 ?h ?_; case h => (intro W hW; have e0 := bcell hW c0; have e1 := bcell hW c1; have e2 := bcell hW c2; have e3 := bcell hW p0; clear hW; go_simp; try rfl); simp only [ly]
         refine tkJ 16 26 hS1 ?_; simp only [ly]
         refine tkJ 17 27 hS1 ?_; simp only [ly]
         refine tkJ 18 28 hS1 ?_; simp only [ly]
         refine tkJ 19 29 hS1 ?_; simp only [ly]
         refine tkJ 20 30 hS1 ?_; simp only [ly]
         refine tkL 21 31 hS1 ?h ?_; case h => (intro W hW; have e0 := bcell hW c0; have e1 := bcell hW c1; have e2 := bcell hW c2; have e3 := bcell hW p0; clear hW; go_simp; try rfl); simp only [ly]
         refine tkJ 22 32 hS1 ?_; simp only [ly]
         refine tkJ 23 33 hS1 ?_; simp only [ly]
         refine tkJ 24 34 hS1 ?_; simp only [ly]
         refine tkJ 25 35 hS1 ?_; simp only [ly]
         refine tkJ 26 36 hS1 ?_; simp only [ly]
         refine tkJ 27 37 hS1 ?_; simp only [ly]
         refine tkJ 28 38 hS1 ?_; simp only [ly]
         refine tkJ 29 39 hS1 ?_; simp only [ly]
         refine tkL 30 40 hS1 ?h ?_; case h => (intro W hW; have e0 := bcell hW c0; have e1 := bcell hW c1; have e2 := bcell hW c2; have e3 := bcell hW p0; clear hW; go_simp; try rfl); simp only [ly]
         refine tkJ 31 41 hS1 ?_; simp only [ly]
         refine tkJ 32 42 hS1 ?_; simp only [ly]
         refine tkJ 33 43 hS1 ?_; simp only [ly]
         refine tkJ 34 44 hS1 ?_; simp only [ly]
         refine tkJ 35 45 hS1 ?_; simp only [ly]
         refine tkJ 36 46 hS1 ?_; simp only [ly]
         refine tkJ 37 47 hS1 ?_; simp only [ly]
         refine tkJ 38 48 hS1 ?_; simp only [ly]
         refine tkL 39 49 hS1 ?h ?_; case h => (intro W hW; have e0 := bcell hW c0; have e1 := bcell hW c1; have e2 := bcell hW c2; have e3 := bcell hW p0; clear hW; go_simp; try rfl); simp only [ly]
         refine tkJ 40 50 hS1 ?_; simp only [ly]
         refine tkJ 41 51 hS1 ?_; simp only [ly]
         refine tkJ 42 52 hS1 ?_; simp only [ly]
         refine tkJ 43 53 hS1 ?_; simp only [ly]
         refine tkJ 44 54 hS1 ?_; simp only [ly]
         refine tkJ 45 55 hS1 ?_; simp only [ly]
         refine tkJ 46 56 hS1 ?_; simp only [ly]
         refine tkJ 47 57 hS1 ?_; simp only [ly]
         refine tkL 48 58 hS1 ?h ?_; case h => (intro W hW; have e0 := bcell hW c0; have e1 := bcell hW c1; have e2 := bcell hW c2; have e3 := bcell hW p0; clear hW; go_simp; try rfl); simp only [ly]
         refine wpAnyH_ready (rs := [49]) (by kernel_rfl) (by simp) ?_
         refine AllReadyH.cons rfl (fun K hK => ?_) AllReadyH.nil
         go_simp
         refine (RowsR_any pl nl cl ll _ (HL.out.below hS1) (by omega)).mono ?_
         rintro e w' ⟨rfl, hb⟩
         rw [show rowsB ll = true from HRW.out]
         refine hK.out _ _ ?hs401 (fun hS2 => ?_)
         case hs401 => exact bel_next hS1 hb
         clear hK K hb
         try simp only [ly]
         refine tkJ 50 60 hS2 ?_; simp only [ly]
         refine tkJ 51 61 hS2 ?_; simp only [ly]
         refine wpAnyH_done (by kernel_rfl) ?_ _
         go_wp2
         go_roundw
         case rel => exact ⟨j + 1 + 1, by omega, by go_num, HF2, (show Hid _ from bel_next HB.out hS2)⟩
         case measure => simp [intOf]; omega
  ·obtain rfl : k0 = n := by omega
   have HR : Hid (mayS s = decide (k0 ≤ 4000)) := by
    have h := HF.out
    rw [← HLEN.out, List.take_length] at h
    unfold Hid
    rw [Bool.eq_iff_iff, mayS_iff, decide_eq_true_iff, HLEN.out]
    exact ⟨fun q => q.2.2, fun q => ⟨by simpa using h.1, h.2, q⟩⟩
   clear HF
   by_cases h4 : (k0 : Int) ≤ 4000
   ·go_wp2
    go_ret
    exact ⟨by rw [HR.out, decide_eq_true (by omega)]; rfl, HB.out⟩
   ·go_wp2
    go_ret
    exact ⟨by rw [HR.out, decide_eq_false (by omega)]; rfl, HB.out⟩
end Go.Proofs.YtkbbegbpkndebaaGreat

