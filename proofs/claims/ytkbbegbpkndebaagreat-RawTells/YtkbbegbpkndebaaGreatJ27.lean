/- Texts of this claim, joined: Z7. -/
import Derived.Test.YtkbbegbpkndebaaGreatJ24
import Derived.Test.YtkbbegbpkndebaaGreatJ7
/- What the program checks of a set (layer 9). -/
namespace Go.Proofs.YtkbbegbpkndebaaGreat
open Go.RowKit Go.Lib
set_option linter.unusedVariables false
def chk9 (s : List En) : Int := if mayS9 s = true then 0 else 1
theorem chk9_yes {s : List En} (h : mayS9 s = true) : chk9 s = 0 := by unfold chk9; rw [if_pos h]
theorem chk9_no {s : List En} (h : mayS9 s = false) : chk9 s = 1 := by unfold chk9; rw [h]; rfl
set_option maxHeartbeats 400000 in
theorem key9_any (k : ByteArray) (w : World) : Calls Tryz.prog 208 #[.string k] w fun e w' => e = .returned (.bool (mayK k)) ∧ Below w.heap.size w w' := by
 obtain ⟨b, hb⟩ : ∃ b, mayK k = b := ⟨_, rfl⟩
 rw [hb]
 have HB := hide hb
 clear hb
 by_cases h1 : (1 : Int) ≤ (k.size : Int)
 ·by_cases h2 : (k.size : Int) ≤ 32
  ·go_enter Tryz.func208, Tryz.ntmps208
   go_wp2
   go_ret
   refine ⟨?_, by first | exact Below.refl _ _ | go_grown⟩
   rw [← HB.out]
   simp [mayK]; omega
  ·go_enter Tryz.func208, Tryz.ntmps208
   go_wp2
   go_ret
   refine ⟨?_, by first | exact Below.refl _ _ | go_grown⟩
   rw [← HB.out]
   simp [mayK]; omega
 ·go_enter Tryz.func208, Tryz.ntmps208
  go_wp2
  go_ret
  refine ⟨?_, by first | exact Below.refl _ _ | go_grown⟩
  rw [← HB.out]
  simp [mayK]; omega
set_option maxHeartbeats 4000000 in
theorem dots9_any (a : Option Addr) (n cap : Nat) (l : List Dot) (w : World) (hA : DS w a n l) : Calls Tryz.prog 209 #[.slice a n cap] w fun e w' => e = .returned (.bool (rowsB l)) ∧ Below w.heap.size w w' := by
 have HV := hide hA
 have hmx := hA.2.1
 unfold maxLen at hmx
 clear hA
 go_enter Tryz.func209, Tryz.ntmps209
 go_wp2
 go_loopw [7] (fun i wr => ∃ k : Nat, k ≤ n ∧ i = .int .i64 k ∧ Hid (rowsB (l.take k) = true) ∧ Hid (Below w.heap.size w wr)) (fun i _ => n - (intOf i).toNat)
 case atStart => exact ⟨0, by omega, rfl, (show rowsB [] = true by decide), Below.refl _ _⟩
 case round =>
  obtain ⟨k0, hk, rfl, HF, HB⟩ := hrel
  by_cases hlt : k0 < n
  ·obtain ⟨b, off, rfl⟩ := HV.out.addr (by omega)
   obtain ⟨r, s, hx, c0, c1⟩ := (HV.out.below HB.out).one k0 hlt
   have hk0 : (0 : Int) ≤ (k0 : Int) := by omega
   have hk1 : (k0 : Int) < (n : Int) := by omega
   have HX := hide hx
   clear hx
   go_upto_region 4 with fail
   have HB2 : Hid (Below w.heap.size w (wr.alloc (.cells #[.int .i64 r, .int .i64 s] 33))) := HB.out.alloc HB.out.size _
   have d0 := cell_new wr #[.int .i64 r, .int .i64 s] 33 _ rfl 0 _ rfl
   have d1 := cell_new wr #[.int .i64 r, .int .i64 s] 33 _ rfl 1 _ rfl
   generalize hgb : wr.heap.size = gb at *
   have HV2 := hide (HV.out.below HB2.out)
   clear c0 c1 HB
   generalize wr.alloc (.cells #[.int .i64 r, .int .i64 s] 33) = u at *
   clear hgb
   rcases hm : mayD (r, s) with _ | _
   ·have HM := hide hm
    have HNO : Hid (rowsB l = false) := rows_may HX.out hm
    clear hm
    refine wp_region_held_drew (S := fun W => Below u.heap.size u W) (by kernel_rfl) ((Below.refl _ u).drew) (fun hS0 => ?_)
    refine tkL 0 12 hS0 ?h ?_; case h => (intro W hW; have e0 := bcell hW d0; have e1 := bcell hW d1; clear hW; go_simp; try rfl); simp only [ly]
    refine wpAnyH_ready (rs := [1]) (by kernel_rfl) (by simp) ?_
    refine AllReadyH.cons rfl (fun K hK => ?_) AllReadyH.nil
    go_simp
    refine (May_any r s _).mono ?_
    rintro e w' ⟨rfl, hg⟩
    rw [show mayD (r, s) = false from HM.out]
    have hb := hg.bel
    refine hK.out _ _ ?hs2 (fun hS1 => ?_)
    case hs2 => exact bel_next hS0 hb
    clear hK K hb
    try simp only [ly]
    refine tkJ 2 14 hS1 ?_; simp only [ly]
    refine tkJ 3 15 hS1 ?_; simp only [ly]
    refine tkM 4 16 hS1 ?_; simp only [ly]
    refine tkM 5 17 hS1 ?_; simp only [ly]
    refine tkM 6 18 hS1 ?_; simp only [ly]
    refine tkM 7 19 hS1 ?_; simp only [ly]
    refine tkM 8 20 hS1 ?_; simp only [ly]
    refine tkM 9 21 hS1 ?_; simp only [ly]
    refine tkM 10 22 hS1 ?_; simp only [ly]
    refine tkM 11 23 hS1 ?_; simp only [ly]
    refine tkM 12 24 hS1 ?_; simp only [ly]
    refine tkM 13 25 hS1 ?_; simp only [ly]
    refine tkM 14 26 hS1 ?_; simp only [ly]
    refine tkM 15 27 hS1 ?_; simp only [ly]
    refine tkJ 16 28 hS1 ?_; simp only [ly]
    refine wpAnyH_done (by kernel_rfl) ?_ _
    go_wp2
    go_ret
    exact ⟨by rw [HNO.out]; simp, bel_next HB2.out hS1⟩
   ·have HM := hide hm
    clear hm
    rcases k0 with _ | j
    ·have HF2 : Hid (rowsB (l.take (0 + 1)) = true) := rows_step HX.out HF.out HM.out (fun j c h => by omega)
     simp only [Nat.zero_add] at HF2
     refine wp_region_held_drew (S := fun W => Below u.heap.size u W) (by kernel_rfl) ((Below.refl _ u).drew) (fun hS0 => ?_)
     refine tkL 0 12 hS0 ?h ?_; case h => (intro W hW; have e0 := bcell hW d0; have e1 := bcell hW d1; clear hW; go_simp; try rfl); simp only [ly]
     refine wpAnyH_ready (rs := [1]) (by kernel_rfl) (by simp) ?_
     refine AllReadyH.cons rfl (fun K hK => ?_) AllReadyH.nil
     go_simp
     refine (May_any r s _).mono ?_
     rintro e w' ⟨rfl, hg⟩
     rw [show mayD (r, s) = true from HM.out]
     have hb := hg.bel
     refine hK.out _ _ ?hs7 (fun hS1 => ?_)
     case hs7 => exact bel_next hS0 hb
     clear hK K hb
     try simp only [ly]
     refine tkJ 2 14 hS1 ?_; simp only [ly]
     refine tkJ 3 15 hS1 ?_; simp only [ly]
     refine tkJ 4 16 hS1 ?_; simp only [ly]
     refine tkJ 5 17 hS1 ?_; simp only [ly]
     refine tkJ 6 18 hS1 ?_; simp only [ly]
     refine tkM 7 19 hS1 ?_; simp only [ly]
     refine tkM 8 20 hS1 ?_; simp only [ly]
     refine tkM 9 21 hS1 ?_; simp only [ly]
     refine tkM 10 22 hS1 ?_; simp only [ly]
     refine tkM 11 23 hS1 ?_; simp only [ly]
     refine tkM 12 24 hS1 ?_; simp only [ly]
     refine tkM 13 25 hS1 ?_; simp only [ly]
     refine tkM 14 26 hS1 ?_; simp only [ly]
     refine tkJ 15 27 hS1 ?_; simp only [ly]
     refine tkJ 16 28 hS1 ?_; simp only [ly]
     refine wpAnyH_done (by kernel_rfl) ?_ _
     go_wp2
     go_roundw
     case rel => exact ⟨1, by omega, by go_num, HF2, (show Hid _ from bel_next HB2.out hS1)⟩
     case measure => simp [intOf]; omega
    ·obtain ⟨p, q, hp, p0, p1⟩ := HV2.out.one j (by omega)
     have HP := hide hp
     clear hp
     have hwj := wrapN (show j ≤ 9223372036854775807 by omega)
     have hj0 : ((j : Int)) + 1 < (n : Int) := by omega
     have hj1 : (j : Int) < (n : Int) := by omega
     have hj2 : (0 : Int) ≤ (j : Int) := by omega
     rcases hl : lessD (p, q) (r, s) with _ | _
     ·have HL := hide hl
      have HNO : Hid (rowsB l = false) := rows_less HP.out HX.out hl
      clear hl
      refine wp_region_held_drew (S := fun W => Below u.heap.size u W) (by kernel_rfl) ((Below.refl _ u).drew) (fun hS0 => ?_)
      refine tkL 0 12 hS0 ?h ?_; case h => (intro W hW; have e0 := bcell hW d0; have e1 := bcell hW d1; have e2 := bcell hW p0; have e3 := bcell hW p1; clear hW; go_simp; try rfl); simp only [ly]
      refine wpAnyH_ready (rs := [1]) (by kernel_rfl) (by simp) ?_
      refine AllReadyH.cons rfl (fun K hK => ?_) AllReadyH.nil
      go_simp
      refine (May_any r s _).mono ?_
      rintro e w' ⟨rfl, hg⟩
      rw [show mayD (r, s) = true from HM.out]
      have hb := hg.bel
      refine hK.out _ _ ?hs33 (fun hS1 => ?_)
      case hs33 => exact bel_next hS0 hb
      clear hK K hb
      try simp only [ly]
      refine tkJ 2 14 hS1 ?_; simp only [ly]
      refine tkJ 3 15 hS1 ?_; simp only [ly]
      refine tkJ 4 16 hS1 ?_; simp only [ly]
      refine tkJ 5 17 hS1 ?_; simp only [ly]
      refine tkJ 6 18 hS1 ?_; simp only [ly]
      refine tkJ 7 19 hS1 ?_; simp only [ly]
      refine tkJ 8 20 hS1 ?_; simp only [ly]
      refine tkJ 9 21 hS1 ?_; simp only [ly]
      refine tkJ 10 22 hS1 ?_; simp only [ly]
      refine tkL 11 23 hS1 ?h ?_; case h => (intro W hW; have e0 := bcell hW d0; have e1 := bcell hW d1; have e2 := bcell hW p0; have e3 := bcell hW p1; clear hW; go_simp; try rfl); simp only [ly]
      refine tkL 12 24 hS1 ?h ?_; case h => (intro W hW; have e0 := bcell hW d0; have e1 := bcell hW d1; have e2 := bcell hW p0; have e3 := bcell hW p1; clear hW; go_simp; try rfl); simp only [ly]
      refine wpAnyH_ready (rs := [13]) (by kernel_rfl) (by simp) ?_
      refine AllReadyH.cons rfl (fun K hK => ?_) AllReadyH.nil
      go_simp
      refine (Less_any (p, q) (r, s) _).mono ?_
      rintro e w' ⟨rfl, hg⟩
      rw [show lessD (p, q) (r, s) = false from HL.out]
      have hb := hg.bel
      refine hK.out _ _ ?hs45 (fun hS2 => ?_)
      case hs45 => exact bel_next hS1 hb
      clear hK K hb
      try simp only [ly]
      refine tkJ 14 26 hS2 ?_; simp only [ly]
      refine tkJ 15 27 hS2 ?_; simp only [ly]
      refine tkJ 16 28 hS2 ?_; simp only [ly]
      refine wpAnyH_done (by kernel_rfl) ?_ _
      go_wp2
      go_ret
      exact ⟨by rw [HNO.out]; simp, bel_next HB2.out hS2⟩
     ·have HL := hide hl
      have HF2 : Hid (rowsB (l.take (j + 1 + 1)) = true) := rows_stepS HX.out HP.out HF.out HM.out hl
      clear hl
      refine wp_region_held_drew (S := fun W => Below u.heap.size u W) (by kernel_rfl) ((Below.refl _ u).drew) (fun hS0 => ?_)
      refine tkL 0 12 hS0 ?h ?_; case h => (intro W hW; have e0 := bcell hW d0; have e1 := bcell hW d1; have e2 := bcell hW p0; have e3 := bcell hW p1; clear hW; go_simp; try rfl); simp only [ly]
      refine wpAnyH_ready (rs := [1]) (by kernel_rfl) (by simp) ?_
      refine AllReadyH.cons rfl (fun K hK => ?_) AllReadyH.nil
      go_simp
      refine (May_any r s _).mono ?_
      rintro e w' ⟨rfl, hg⟩
      rw [show mayD (r, s) = true from HM.out]
      have hb := hg.bel
      refine hK.out _ _ ?hs16 (fun hS1 => ?_)
      case hs16 => exact bel_next hS0 hb
      clear hK K hb
      try simp only [ly]
      refine tkJ 2 14 hS1 ?_; simp only [ly]
      refine tkJ 3 15 hS1 ?_; simp only [ly]
      refine tkJ 4 16 hS1 ?_; simp only [ly]
      refine tkJ 5 17 hS1 ?_; simp only [ly]
      refine tkJ 6 18 hS1 ?_; simp only [ly]
      refine tkJ 7 19 hS1 ?_; simp only [ly]
      refine tkJ 8 20 hS1 ?_; simp only [ly]
      refine tkJ 9 21 hS1 ?_; simp only [ly]
      refine tkJ 10 22 hS1 ?_; simp only [ly]
      refine tkL 11 23 hS1 ?h ?_; case h => (intro W hW; have e0 := bcell hW d0; have e1 := bcell hW d1; have e2 := bcell hW p0; have e3 := bcell hW p1; clear hW; go_simp; try rfl); simp only [ly]
      refine tkL 12 24 hS1 ?h ?_; case h => (intro W hW; have e0 := bcell hW d0; have e1 := bcell hW d1; have e2 := bcell hW p0; have e3 := bcell hW p1; clear hW; go_simp; try rfl); simp only [ly]
      refine wpAnyH_ready (rs := [13]) (by kernel_rfl) (by simp) ?_
      refine AllReadyH.cons rfl (fun K hK => ?_) AllReadyH.nil
      go_simp
      refine (Less_any (p, q) (r, s) _).mono ?_
      rintro e w' ⟨rfl, hg⟩
      rw [show lessD (p, q) (r, s) = true from HL.out]
      have hb := hg.bel
      refine hK.out _ _ ?hs28 (fun hS2 => ?_)
      case hs28 => exact bel_next hS1 hb
      clear hK K hb
      try simp only [ly]
      refine tkJ 14 26 hS2 ?_; simp only [ly]
      refine tkJ 15 27 hS2 ?_; simp only [ly]
      refine tkJ 16 28 hS2 ?_; simp only [ly]
      refine wpAnyH_done (by kernel_rfl) ?_ _
      go_wp2
      go_roundw
      case rel => exact ⟨j + 1 + 1, by omega, by go_num, HF2, (show Hid _ from bel_next HB2.out hS2)⟩
      case measure => simp [intOf]; omega
  ·obtain rfl : k0 = n := by omega
   have HR : Hid (rowsB l = true) := by have := HF.out; rwa [← HV.out.1, List.take_length] at this
   have HN := hide HV.out.1
   clear HF
   go_wp2
   go_ret
   exact ⟨by rw [HR.out]; rfl, HB.out⟩
set_option maxHeartbeats 400000 in
theorem noth9_any (k : ByteArray) (pl : Option Addr) (nl cl : Nat) (pd : Option Addr) (nd cd : Nat) (w : World) : Calls Tryz.prog 184 #[.agg #[.string k, .slice pl nl cl, .slice pd nd cd]] w fun e w' => e = .returned (.bool (decide (nl + nd = 0))) ∧ Below w.heap.size w w' := by
 by_cases h1 : (nl : Int) = 0
 ·by_cases h2 : (nd : Int) = 0
  ·have HR : Hid (decide (nl + nd = 0) = true) := decide_eq_true (by omega)
   go_enter Tryz.func184, Tryz.ntmps184
   go_wp2
   go_ret
   exact ⟨by rw [HR.out]; first | rfl | (simp; omega), bel1 _ _⟩
  ·have HR : Hid (decide (nl + nd = 0) = false) := decide_eq_false (by omega)
   go_enter Tryz.func184, Tryz.ntmps184
   go_wp2
   go_ret
   exact ⟨by rw [HR.out]; first | rfl | (simp; omega), bel1 _ _⟩
 ·have HR : Hid (decide (nl + nd = 0) = false) := decide_eq_false (by omega)
  go_enter Tryz.func184, Tryz.ntmps184
  go_wp2
  go_ret
  exact ⟨by rw [HR.out]; first | rfl | (simp; omega), bel1 _ _⟩
set_option maxHeartbeats 1000000 in
theorem ent9_any (k : ByteArray) (pl : Option Addr) (nl cl : Nat) (pd : Option Addr) (nd cd : Nat) (l m : List Dot) (w : World) (hl : DS w pl nl l) (hm : DS w pd nd m) : Calls Tryz.prog 178 #[.agg #[.string k, .slice pl nl cl, .slice pd nd cd]] w fun e w' => e = .returned (.bool (mayN9 (k, l, m))) ∧ Below w.heap.size w w' := by
 have HL := hide hl
 have HD := hide hm
 have HN1 := hide hl.1
 have HN2 := hide hm.1
 clear hl hm
 rcases h1 : mayK k with _ | _
 ·have H1 := hide h1
  have HR : Hid (mayN9 (k, l, m) = false) := mayN9_no0 h1
  clear h1
  go_enter Tryz.func178, Tryz.ntmps178
  go_wp2_with (go_at_call 208; refine (key9_any k _).mono ?_; rintro e w1 ⟨rfl, hb1⟩; rw [H1.out]; have d0 := bcell hb1 (cell_new w #[.string k, .slice pl nl cl, .slice pd nd cd] 125 _ rfl 0 _ rfl); have d1 := bcell hb1 (cell_new w #[.string k, .slice pl nl cl, .slice pd nd cd] 125 _ rfl 1 _ rfl); have d2 := bcell hb1 (cell_new w #[.string k, .slice pl nl cl, .slice pd nd cd] 125 _ rfl 2 _ rfl); have BB := hide (bel_next (bel1 _ _) hb1); clear hb1)
  go_ret
  exact ⟨by simp [HR.out], BB.out⟩
 ·have H1 := hide h1
  rcases h2 : decide (nl + nd = 0) with _ | _
  ·have H2 := hide h2
   have h2' := of_decide_eq_false h2
   rcases h3 : rowsB l with _ | _
   ·have H3 := hide h3
    have HR : Hid (mayN9 (k, l, m) = false) := mayN9_no2 h3
    clear h1 h2 h3 h2'
    go_enter Tryz.func178, Tryz.ntmps178
    go_wp2_with (first | (go_at_call 208; refine (key9_any k _).mono ?_; rintro e w1 ⟨rfl, hb1⟩; rw [H1.out]; have d0 := bcell hb1 (cell_new w #[.string k, .slice pl nl cl, .slice pd nd cd] 125 _ rfl 0 _ rfl); have d1 := bcell hb1 (cell_new w #[.string k, .slice pl nl cl, .slice pd nd cd] 125 _ rfl 1 _ rfl); have d2 := bcell hb1 (cell_new w #[.string k, .slice pl nl cl, .slice pd nd cd] 125 _ rfl 2 _ rfl); have BB := hide (bel_next (bel1 _ _) hb1); clear hb1) | (go_at_call 184; refine (noth9_any k pl nl cl pd nd cd _).mono ?_; rintro e w2 ⟨rfl, hb2⟩; rw [H2.out]; replace d1 := bcell hb2 d1; replace d2 := bcell hb2 d2; replace BB := hide (bel_next BB.out hb2); clear hb2; refine Stop.at ?_))
    unfold Stop
    go_wp2_with (go_at_call 209; refine (dots9_any pl nl cl l _ (HL.out.below BB.out)).mono ?_; rintro e w3 ⟨rfl, hb3⟩; rw [H3.out]; replace d2 := bcell hb3 d2; replace BB := hide (bel_next BB.out hb3); clear hb3; refine Stop.at ?_)
    unfold Stop
    go_wp2
    go_ret
    exact ⟨by simp [HR.out], BB.out⟩
   ·have H3 := hide h3
    have HR : Hid (mayN9 (k, l, m) = rowsB m) := by
     unfold Hid
     rcases h4 : rowsB m with _ | _
     ·exact mayN9_no3 h4
     ·exact mayN9_yes h1 (by rw [HN1.out, HN2.out]; exact h2') h3 h4
    clear h1 h2 h3 h2'
    rw [HR.out]
    go_enter Tryz.func178, Tryz.ntmps178
    go_wp2_with (first | (go_at_call 208; refine (key9_any k _).mono ?_; rintro e w1 ⟨rfl, hb1⟩; rw [H1.out]; have d0 := bcell hb1 (cell_new w #[.string k, .slice pl nl cl, .slice pd nd cd] 125 _ rfl 0 _ rfl); have d1 := bcell hb1 (cell_new w #[.string k, .slice pl nl cl, .slice pd nd cd] 125 _ rfl 1 _ rfl); have d2 := bcell hb1 (cell_new w #[.string k, .slice pl nl cl, .slice pd nd cd] 125 _ rfl 2 _ rfl); have BB := hide (bel_next (bel1 _ _) hb1); clear hb1) | (go_at_call 184; refine (noth9_any k pl nl cl pd nd cd _).mono ?_; rintro e w2 ⟨rfl, hb2⟩; rw [H2.out]; replace d1 := bcell hb2 d1; replace d2 := bcell hb2 d2; replace BB := hide (bel_next BB.out hb2); clear hb2; refine Stop.at ?_))
    unfold Stop
    go_wp2_with (go_at_call 209; refine (dots9_any pl nl cl l _ (HL.out.below BB.out)).mono ?_; rintro e w3 ⟨rfl, hb3⟩; rw [H3.out]; replace d2 := bcell hb3 d2; replace BB := hide (bel_next BB.out hb3); clear hb3; refine Stop.at ?_)
    unfold Stop
    go_wp2_with (go_at_call 209; refine (dots9_any pd nd cd m _ (HD.out.below BB.out)).mono ?_; rintro e w4 ⟨rfl, hb4⟩; replace BB := hide (bel_next BB.out hb4); clear hb4)
    go_ret
    exact ⟨rfl, BB.out⟩
  ·have H2 := hide h2
   have HR : Hid (mayN9 (k, l, m) = false) := mayN9_no1 (by rw [HN1.out, HN2.out]; exact of_decide_eq_true h2)
   clear h1 h2
   go_enter Tryz.func178, Tryz.ntmps178
   go_wp2_with (first | (go_at_call 208; refine (key9_any k _).mono ?_; rintro e w1 ⟨rfl, hb1⟩; rw [H1.out]; have d0 := bcell hb1 (cell_new w #[.string k, .slice pl nl cl, .slice pd nd cd] 125 _ rfl 0 _ rfl); have d1 := bcell hb1 (cell_new w #[.string k, .slice pl nl cl, .slice pd nd cd] 125 _ rfl 1 _ rfl); have d2 := bcell hb1 (cell_new w #[.string k, .slice pl nl cl, .slice pd nd cd] 125 _ rfl 2 _ rfl); have BB := hide (bel_next (bel1 _ _) hb1); clear hb1) | (go_at_call 184; refine (noth9_any k pl nl cl pd nd cd _).mono ?_; rintro e w2 ⟨rfl, hb2⟩; rw [H2.out]; replace d1 := bcell hb2 d1; replace d2 := bcell hb2 d2; replace BB := hide (bel_next BB.out hb2); clear hb2; refine Stop.at ?_))
   unfold Stop
   go_wp2
   go_ret
   exact ⟨by simp [HR.out], BB.out⟩
set_option maxHeartbeats 4000000 in
theorem chk9_any (a : Option Addr) (n cap : Nat) (s : List En) (w : World) (hA : NSS w a n s) : Calls Tryz.prog 125 #[.slice a n cap] w fun e w' => e = .returned (.int .i64 (chk9 s)) ∧ Below w.heap.size w w' := by
 have HV := hide hA
 have hmx := hA.max
 have HLEN := hide hA.len
 unfold maxLen at hmx
 clear hA
 by_cases hbig : (4000 : Int) < (n : Int)
 ·have HR : Hid (chk9 s = 1) := by
   unfold Hid chk9
   rw [if_neg]
   intro h
   have := (mayS9_iff.1 h).2.2
   rw [HLEN.out] at this
   omega
  go_enter Tryz.func125, Tryz.ntmps125
  go_wp2
  go_ret
  exact ⟨by simp [HR.out], Below.refl _ _⟩
 ·go_enter Tryz.func125, Tryz.ntmps125
  go_wp2
  go_loopw [10] (fun i wr => ∃ k : Nat, k ≤ n ∧ i = .int .i64 k ∧ Hid ((s.take k).all mayN9 = true ∧ SrtK (s.take k)) ∧ Hid (Below w.heap.size w wr)) (fun i _ => n - (intOf i).toNat)
  case atStart => exact ⟨0, by omega, rfl, (show _ ∧ _ by simp [SrtK]), Below.refl _ _⟩
  case round =>
   obtain ⟨k0, hk, rfl, HF, HB⟩ := hrel
   by_cases hlt : k0 < n
   ·obtain ⟨b, off, rfl⟩ := HV.out.addr (by omega)
    obtain ⟨k, pl, nl, cl, pd, nd, cd, ll, mm, hx, c0, c1, c2, hdl, hcl, hdd, hcd⟩ := (HV.out.below HB.out).at k0 hlt
    have hk0 : (0 : Int) ≤ (k0 : Int) := by omega
    have hk1 : (k0 : Int) < (n : Int) := by omega
    have HX := hide hx
    clear hx hcl hcd
    go_upto_region 6 with fail
    have HB2 : Hid (Below w.heap.size w (wr.alloc (.cells #[.string k, .slice pl nl cl, .slice pd nd cd] 125))) := HB.out.alloc HB.out.size _
    have d0 := cell_new wr #[.string k, .slice pl nl cl, .slice pd nd cd] 125 _ rfl 0 _ rfl
    have d1 := cell_new wr #[.string k, .slice pl nl cl, .slice pd nd cd] 125 _ rfl 1 _ rfl
    have d2 := cell_new wr #[.string k, .slice pl nl cl, .slice pd nd cd] 125 _ rfl 2 _ rfl
    have HL := hide (hdl.below (bel1 wr (.cells #[.string k, .slice pl nl cl, .slice pd nd cd] 125)))
    have HD := hide (hdd.below (bel1 wr (.cells #[.string k, .slice pl nl cl, .slice pd nd cd] 125)))
    generalize hgb : wr.heap.size = gb at *
    have HV2 := hide (HV.out.below HB2.out)
    clear c0 c1 c2 HB hdl hdd
    generalize wr.alloc (.cells #[.string k, .slice pl nl cl, .slice pd nd cd] 125) = u at *
    clear hgb
    rcases hm : mayN9 (k, ll, mm) with _ | _
    ·have HM := hide hm
     have HNO : Hid (chk9 s = 1) := by unfold Hid chk9; rw [set9_may HX.out hm]; rfl
     clear hm
     refine wp_region_held_drew (S := fun W => Below u.heap.size u W) (by kernel_rfl) ((Below.refl _ u).drew) (fun hS0 => ?_)
     refine tkL 0 15 hS0 ?h ?_; case h => (intro W hW; have e0 := bcell hW d0; have e1 := bcell hW d1; have e2 := bcell hW d2; clear hW; go_simp; try rfl); simp only [ly]
     refine wpAnyH_ready (rs := [1]) (by kernel_rfl) (by simp) ?_
     refine AllReadyH.cons rfl (fun K hK => ?_) AllReadyH.nil
     go_simp
     refine (ent9_any k pl nl cl pd nd cd ll mm _ (HL.out.below hS0) (HD.out.below hS0)).mono ?_
     rintro e w' ⟨rfl, hb⟩
     rw [show mayN9 (k, ll, mm) = false from HM.out]
     refine hK.out _ _ ?hs50 (fun hS1 => ?_)
     case hs50 => exact bel_next hS0 hb
     clear hK K hb
     try simp only [ly]
     refine tkJ 2 17 hS1 ?_; simp only [ly]
     refine tkJ 3 18 hS1 ?_; simp only [ly]
     refine tkM 4 19 hS1 ?_; simp only [ly]
     refine tkM 5 20 hS1 ?_; simp only [ly]
     refine tkM 6 21 hS1 ?_; simp only [ly]
     refine tkM 7 22 hS1 ?_; simp only [ly]
     refine tkM 8 23 hS1 ?_; simp only [ly]
     refine tkM 9 24 hS1 ?_; simp only [ly]
     refine tkM 10 25 hS1 ?_; simp only [ly]
     refine tkM 11 26 hS1 ?_; simp only [ly]
     refine tkM 12 27 hS1 ?_; simp only [ly]
     refine tkM 13 28 hS1 ?_; simp only [ly]
     refine tkM 14 29 hS1 ?_; simp only [ly]
     refine tkM 15 30 hS1 ?_; simp only [ly]
     refine tkM 16 31 hS1 ?_; simp only [ly]
     refine tkJ 17 32 hS1 ?_; simp only [ly]
     refine wpAnyH_done (by kernel_rfl) ?_ _
     go_wp2
     go_ret
     exact ⟨by rw [HNO.out]; simp, bel_next HB2.out hS1⟩
    ·have HM := hide hm
     clear hm
     rcases k0 with _ | j
     ·have HF2 : Hid ((s.take (0 + 1)).all mayN9 = true ∧ SrtK (s.take (0 + 1))) := set9_step HX.out HF.out HM.out (fun j c h => by omega)
      simp only [Nat.zero_add] at HF2
      refine wp_region_held_drew (S := fun W => Below u.heap.size u W) (by kernel_rfl) ((Below.refl _ u).drew) (fun hS0 => ?_)
      refine tkL 0 15 hS0 ?h ?_; case h => (intro W hW; have e0 := bcell hW d0; have e1 := bcell hW d1; have e2 := bcell hW d2; clear hW; go_simp; try rfl); simp only [ly]
      refine wpAnyH_ready (rs := [1]) (by kernel_rfl) (by simp) ?_
      refine AllReadyH.cons rfl (fun K hK => ?_) AllReadyH.nil
      go_simp
      refine (ent9_any k pl nl cl pd nd cd ll mm _ (HL.out.below hS0) (HD.out.below hS0)).mono ?_
      rintro e w' ⟨rfl, hb⟩
      rw [show mayN9 (k, ll, mm) = true from HM.out]
      refine hK.out _ _ ?hs55 (fun hS1 => ?_)
      case hs55 => exact bel_next hS0 hb
      clear hK K hb
      try simp only [ly]
      refine tkJ 2 17 hS1 ?_; simp only [ly]
      refine tkJ 3 18 hS1 ?_; simp only [ly]
      refine tkJ 4 19 hS1 ?_; simp only [ly]
      refine tkJ 5 20 hS1 ?_; simp only [ly]
      refine tkJ 6 21 hS1 ?_; simp only [ly]
      refine tkM 7 22 hS1 ?_; simp only [ly]
      refine tkM 8 23 hS1 ?_; simp only [ly]
      refine tkM 9 24 hS1 ?_; simp only [ly]
      refine tkM 10 25 hS1 ?_; simp only [ly]
      refine tkM 11 26 hS1 ?_; simp only [ly]
      refine tkM 12 27 hS1 ?_; simp only [ly]
      refine tkM 13 28 hS1 ?_; simp only [ly]
      refine tkM 14 29 hS1 ?_; simp only [ly]
      refine tkM 15 30 hS1 ?_; simp only [ly]
      refine tkJ 16 31 hS1 ?_; simp only [ly]
      refine tkJ 17 32 hS1 ?_; simp only [ly]
      refine wpAnyH_done (by kernel_rfl) ?_ _
      go_wp2
      go_roundw
      case rel => exact ⟨1, by omega, by go_num, HF2, (show Hid _ from bel_next HB2.out hS1)⟩
      case measure => simp [intOf]; omega
     ·obtain ⟨kp, pl', nl', cl', pd', nd', cd', ll', mm', hp, p0, _, _, _, _, _, _⟩ := HV2.out.at j (by omega)
      have HP := hide hp
      clear hp
      have hwj := wrapN (show j ≤ 9223372036854775807 by omega)
      have hj0 : ((j : Int)) + 1 < (n : Int) := by omega
      have hj1 : (j : Int) < (n : Int) := by omega
      have hj2 : (0 : Int) ≤ (j : Int) := by omega
      rcases hl : Op.bytesLess kp.toList k.toList with _ | _
      ·have HNO : Hid (chk9 s = 1) := by unfold Hid chk9; rw [set9_less HP.out HX.out hl]; rfl
       refine wp_region_held_drew (S := fun W => Below u.heap.size u W) (by kernel_rfl) ((Below.refl _ u).drew) (fun hS0 => ?_)
       refine tkL 0 15 hS0 ?h ?_; case h => (intro W hW; have e0 := bcell hW d0; have e1 := bcell hW d1; have e2 := bcell hW d2; have e3 := bcell hW p0; clear hW; go_simp; try rfl); simp only [ly]
       refine wpAnyH_ready (rs := [1]) (by kernel_rfl) (by simp) ?_
       refine AllReadyH.cons rfl (fun K hK => ?_) AllReadyH.nil
       go_simp
       refine (ent9_any k pl nl cl pd nd cd ll mm _ (HL.out.below hS0) (HD.out.below hS0)).mono ?_
       rintro e w' ⟨rfl, hb⟩
       rw [show mayN9 (k, ll, mm) = true from HM.out]
       refine hK.out _ _ ?hs82 (fun hS1 => ?_)
       case hs82 => exact bel_next hS0 hb
       clear hK K hb
       try simp only [ly]
       refine tkJ 2 17 hS1 ?_; simp only [ly]
       refine tkJ 3 18 hS1 ?_; simp only [ly]
       refine tkJ 4 19 hS1 ?_; simp only [ly]
       refine tkJ 5 20 hS1 ?_; simp only [ly]
       refine tkJ 6 21 hS1 ?_; simp only [ly]
       refine tkJ 7 22 hS1 ?_; simp only [ly]
       refine tkJ 8 23 hS1 ?_; simp only [ly]
       refine tkJ 9 24 hS1 ?_; simp only [ly]
       refine tkJ 10 25 hS1 ?_; simp only [ly]
       refine tkJ 11 26 hS1 ?_; simp only [ly]
       refine tkL 12 27 hS1 ?h ?_; case h => (intro W hW; have e0 := bcell hW d0; have e1 := bcell hW d1; have e2 := bcell hW d2; have e3 := bcell hW p0; clear hW; go_simp; try rfl); simp only [ly]
       refine tkJ 13 28 hS1 ?_; simp only [ly]
       refine tkL 14 29 hS1 ?h ?_; case h => (intro W hW; have e0 := bcell hW d0; have e1 := bcell hW d1; have e2 := bcell hW d2; have e3 := bcell hW p0; clear hW; go_simp; try rfl); simp only [ly]
       refine tkJ 15 30 hS1 ?_; simp only [ly]
       refine tkJ 16 31 hS1 ?_; simp only [ly]
       refine tkJ 17 32 hS1 ?_; simp only [ly]
       refine wpAnyH_done (by kernel_rfl) ?_ _
       go_wp2
       go_ret
       exact ⟨by rw [HNO.out]; simp, bel_next HB2.out hS1⟩
      ·have HF2 : Hid ((s.take (j + 1 + 1)).all mayN9 = true ∧ SrtK (s.take (j + 1 + 1))) := set9_stepS HX.out HP.out HF.out HM.out hl
       refine wp_region_held_drew (S := fun W => Below u.heap.size u W) (by kernel_rfl) ((Below.refl _ u).drew) (fun hS0 => ?_)
       refine tkL 0 15 hS0 ?h ?_; case h => (intro W hW; have e0 := bcell hW d0; have e1 := bcell hW d1; have e2 := bcell hW d2; have e3 := bcell hW p0; clear hW; go_simp; try rfl); simp only [ly]
       refine wpAnyH_ready (rs := [1]) (by kernel_rfl) (by simp) ?_
       refine AllReadyH.cons rfl (fun K hK => ?_) AllReadyH.nil
       go_simp
       refine (ent9_any k pl nl cl pd nd cd ll mm _ (HL.out.below hS0) (HD.out.below hS0)).mono ?_
       rintro e w' ⟨rfl, hb⟩
       rw [show mayN9 (k, ll, mm) = true from HM.out]
       refine hK.out _ _ ?hs64 (fun hS1 => ?_)
       case hs64 => exact bel_next hS0 hb
       clear hK K hb
       try simp only [ly]
       refine tkJ 2 17 hS1 ?_; simp only [ly]
       refine tkJ 3 18 hS1 ?_; simp only [ly]
       refine tkJ 4 19 hS1 ?_; simp only [ly]
       refine tkJ 5 20 hS1 ?_; simp only [ly]
       refine tkJ 6 21 hS1 ?_; simp only [ly]
       refine tkJ 7 22 hS1 ?_; simp only [ly]
       refine tkJ 8 23 hS1 ?_; simp only [ly]
       refine tkJ 9 24 hS1 ?_; simp only [ly]
       refine tkJ 10 25 hS1 ?_; simp only [ly]
       refine tkJ 11 26 hS1 ?_; simp only [ly]
       refine tkL 12 27 hS1 ?h ?_; case h => (intro W hW; have e0 := bcell hW d0; have e1 := bcell hW d1; have e2 := bcell hW d2; have e3 := bcell hW p0; clear hW; go_simp; try rfl); simp only [ly]
       refine tkJ 13 28 hS1 ?_; simp only [ly]
       refine tkL 14 29 hS1 ?h ?_; case h => (intro W hW; have e0 := bcell hW d0; have e1 := bcell hW d1; have e2 := bcell hW d2; have e3 := bcell hW p0; clear hW; go_simp; try rfl); simp only [ly]
       refine tkJ 15 30 hS1 ?_; simp only [ly]
       refine tkJ 16 31 hS1 ?_; simp only [ly]
       refine tkJ 17 32 hS1 ?_; simp only [ly]
       refine wpAnyH_done (by kernel_rfl) ?_ _
       go_wp2
       go_roundw
       case rel => exact ⟨j + 1 + 1, by omega, by go_num, HF2, (show Hid _ from bel_next HB2.out hS1)⟩
       case measure => simp [intOf]; omega
   ·obtain rfl : k0 = n := by omega
    have HR : Hid (chk9 s = 0) := by
     have h := HF.out
     rw [← HLEN.out, List.take_length] at h
     unfold Hid chk9
     rw [if_pos]
     exact mayS9_iff.2 ⟨by simpa using h.1, h.2, by rw [HLEN.out]; omega⟩
    clear HF
    go_wp2
    go_ret
    exact ⟨by simp [HR.out], HB.out⟩
end Go.Proofs.YtkbbegbpkndebaaGreat

