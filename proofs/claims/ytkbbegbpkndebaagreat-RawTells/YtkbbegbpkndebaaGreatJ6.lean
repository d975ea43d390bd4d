/- Texts of this claim, joined: A2. -/
import Derived.Deep.RegionWith
import Derived.Deep.CutBlock
import Derived.Deep.CutRange
import Derived.Test.YtkbbegbpkndebaaGreatJ5
/- What the program checks of a set (layer 8). -/
namespace Go.Proofs.YtkbbegbpkndebaaGreat
open Go.RowKit Go.Lib
set_option linter.unusedVariables false
theorem wrapN {j : Nat} (h : j ≤ 9223372036854775807) : IntKind.i64.wrap (j : Int) = j := by simp [IntKind.wrap, IntKind.bits, IntKind.signed]; omega
theorem rows_step {l : List Dot} {k : Nat} {d : Dot} (hx : l[k]? = some d) (h : rowsB (l.take k) = true) (hd : mayD d = true) (hp : ∀ j c, k = j + 1 → l[j]? = some c → lessD c d = true) : rowsB (l.take (k + 1)) = true := by
 obtain ⟨h1, h2⟩ := rowsB_iff.1 h
 rw [take_snocL hx]
 refine rowsB_iff.2 ⟨fun x hx' => ?_, ?_⟩
 ·rcases List.mem_append.1 hx' with q | q
  ·exact h1 x q
  ·simp at q; subst q; exact hd
 ·unfold SrtD at *
  rw [List.pairwise_append]
  refine ⟨h2, List.pairwise_singleton _ _, fun x hx' y hy => ?_⟩
  simp at hy
  subst hy
  obtain ⟨i, hi⟩ := List.mem_iff_getElem?.1 hx'
  rw [List.getElem?_take] at hi
  split at hi
  ·rename_i hik
   obtain ⟨j, rfl⟩ : ∃ j, k = j + 1 := ⟨k - 1, by omega⟩
   have hjl : j < l.length := by have := (List.getElem?_eq_some_iff.1 hx).1; omega
   have hj : l[j]? = some l[j] := List.getElem?_eq_getElem hjl
   have h3 := hp j _ rfl hj
   rcases Nat.lt_or_ge i j with hij | hij
   ·have h4 : lessD x l[j] = true := by
     have hil : i < l.length := by omega
     have := List.pairwise_iff_getElem.1 h2 i j (by rw [List.length_take]; omega) (by rw [List.length_take]; omega) hij
     rw [List.getElem_take, List.getElem_take] at this
     rw [List.getElem?_eq_getElem hil] at hi
     cases hi
     exact this
    exact lessD_trans h4 h3
   ·obtain rfl : i = j := by omega
    rw [hj] at hi
    cases hi
    exact h3
  ·cases hi
theorem rows_stepS {l : List Dot} {j : Nat} {c d : Dot} (hx : l[j + 1]? = some d) (hc : l[j]? = some c) (h : rowsB (l.take (j + 1)) = true) (hd : mayD d = true) (hl : lessD c d = true) : rowsB (l.take (j + 1 + 1)) = true := by
 refine rows_step hx h hd (fun i e hi he => ?_)
 obtain rfl : i = j := by omega
 rw [hc] at he
 cases he
 exact hl
theorem rows_may {l : List Dot} {k : Nat} {d : Dot} (hx : l[k]? = some d) (h : mayD d = false) : rowsB l = false := by
 rcases hb : rowsB l with _ | _
 ·rfl
 ·have := (rowsB_iff.1 hb).1 d (List.mem_of_getElem? hx)
  rw [h] at this
  cases this
theorem rows_less {l : List Dot} {j : Nat} {c d : Dot} (hc : l[j]? = some c) (hd : l[j + 1]? = some d) (h : lessD c d = false) : rowsB l = false := by
 rcases hb : rowsB l with _ | _
 ·rfl
 ·obtain ⟨h1, e1⟩ := List.getElem?_eq_some_iff.1 hc
  obtain ⟨h2, e2⟩ := List.getElem?_eq_some_iff.1 hd
  have := List.pairwise_iff_getElem.1 (rowsB_iff.1 hb).2 j (j + 1) h1 h2 (by omega)
  rw [e1, e2, h] at this
  cases this
theorem set_step {s : List En} {k : Nat} {x : En} (hx : s[k]? = some x) (h : (s.take k).all mayN = true ∧ SrtK (s.take k)) (hd : mayN x = true) (hp : ∀ j y, k = j + 1 → s[j]? = some y → ltK y.1 x.1 = true) : (s.take (k + 1)).all mayN = true ∧ SrtK (s.take (k + 1)) := by
 rw [take_snocL hx]
 refine ⟨by simp [h.1, hd], ?_⟩
 have h2 := h.2
 unfold SrtK at *
 rw [List.pairwise_append]
 refine ⟨h2, List.pairwise_singleton _ _, fun z hz y hy => ?_⟩
 simp at hy
 subst hy
 obtain ⟨i, hi⟩ := List.mem_iff_getElem?.1 hz
 rw [List.getElem?_take] at hi
 split at hi
 ·rename_i hik
  obtain ⟨j, rfl⟩ : ∃ j, k = j + 1 := ⟨k - 1, by omega⟩
  have hjl : j < s.length := by have := (List.getElem?_eq_some_iff.1 hx).1; omega
  have hj : s[j]? = some s[j] := List.getElem?_eq_getElem hjl
  have h3 := hp j _ rfl hj
  rcases Nat.lt_or_ge i j with hij | hij
  ·have hil : i < s.length := by omega
   have := List.pairwise_iff_getElem.1 h2 i j (by rw [List.length_take]; omega) (by rw [List.length_take]; omega) hij
   rw [List.getElem_take, List.getElem_take] at this
   rw [List.getElem?_eq_getElem hil] at hi
   cases hi
   exact ltK_trans this h3
  ·obtain rfl : i = j := by omega
   rw [hj] at hi
   cases hi
   exact h3
 ·cases hi
theorem set_stepS {s : List En} {j : Nat} {c x : En} (hx : s[j + 1]? = some x) (hc : s[j]? = some c) (h : (s.take (j + 1)).all mayN = true ∧ SrtK (s.take (j + 1))) (hd : mayN x = true) (hl : ltK c.1 x.1 = true) : (s.take (j + 1 + 1)).all mayN = true ∧ SrtK (s.take (j + 1 + 1)) := by
 refine set_step hx h hd (fun i e hi he => ?_)
 obtain rfl : i = j := by omega
 rw [hc] at he
 cases he
 exact hl
theorem set_may {s : List En} {k : Nat} {x : En} (hx : s[k]? = some x) (h : mayN x = false) : mayS s = false := by
 rcases hb : mayS s with _ | _
 ·rfl
 ·have := (mayS_iff.1 hb).1 x (List.mem_of_getElem? hx)
  rw [h] at this
  cases this
theorem set_less {s : List En} {j : Nat} {c d : En} (hc : s[j]? = some c) (hd : s[j + 1]? = some d) (h : ltK c.1 d.1 = false) : mayS s = false := by
 rcases hb : mayS s with _ | _
 ·rfl
 ·have := srt_lt (mayS_iff.1 hb).2.1 hc hd (by omega)
  rw [h] at this
  cases this
def chkS (s : List En) : Int := if mayS s = true then 0 else 1
set_option maxHeartbeats 400000 in
theorem mayBeKey_any (k : ByteArray) (w : World) : Calls Tryz.prog 193 #[.string k] w fun e w' => e = .returned (.bool (mayK k)) ∧ Below w.heap.size w w' := by
 obtain ⟨b, hb⟩ : ∃ b, mayK k = b := ⟨_, rfl⟩
 rw [hb]
 have HB := hide hb
 clear hb
 by_cases h1 : (1 : Int) ≤ (k.size : Int)
 ·by_cases h2 : (k.size : Int) ≤ 32
  ·go_enter Tryz.func193, Tryz.ntmps193
   go_wp2
   go_ret
   refine ⟨?_, by first | exact Below.refl _ _ | go_grown⟩
   rw [← HB.out]
   simp [mayK]; omega
  ·go_enter Tryz.func193, Tryz.ntmps193
   go_wp2
   go_ret
   refine ⟨?_, by first | exact Below.refl _ _ | go_grown⟩
   rw [← HB.out]
   simp [mayK]; omega
 ·go_enter Tryz.func193, Tryz.ntmps193
  go_wp2
  go_ret
  refine ⟨?_, by first | exact Below.refl _ _ | go_grown⟩
  rw [← HB.out]
  simp [mayK]; omega
set_option maxHeartbeats 4000000 in
theorem mayBeLive_any (a : Option Addr) (n cap : Nat) (l : List Dot) (w : World) (hA : DS w a n l) : Calls Tryz.prog 210 #[.slice a n cap] w fun e w' => e = .returned (.bool (decide (l ≠ []) && rowsB l)) ∧ Below w.heap.size w w' := by
 have HV := hide hA
 have hmx := hA.2.1
 unfold maxLen at hmx
 clear hA
 go_enter Tryz.func210, Tryz.ntmps210
 go_wp2
 go_loopw [7] (fun i wr => ∃ k : Nat, k ≤ n ∧ i = .int .i64 k ∧ Hid (rowsB (l.take k) = true) ∧ Hid (Below w.heap.size w wr)) (fun i _ => n - (intOf i).toNat)
 case atStart => exact ⟨0, by omega, rfl, (show rowsB [] = true by decide), Below.refl _ _⟩
 case round =>
  obtain ⟨k0, hk, rfl, HF, HB⟩ := hrel
  by_cases hlt : k0 < n
  ·obtain ⟨b, off, rfl⟩ := HV.out.addr (by omega)
   obtain ⟨r, s, hx, c0, c1⟩ := (HV.out.below HB.out).one k0 hlt
   have hk0 : (0 : Int) ≤ (k0 : Int) := by omega
   have hk1 : (k0 : Int) < (n : Int) := by omega
   have HX := hide hx
   clear hx
   go_upto_region 4 with fail
   have HB2 : Hid (Below w.heap.size w (wr.alloc (.cells #[.int .i64 r, .int .i64 s] 33))) := HB.out.alloc HB.out.size _
   have d0 := cell_new wr #[.int .i64 r, .int .i64 s] 33 _ rfl 0 _ rfl
   have d1 := cell_new wr #[.int .i64 r, .int .i64 s] 33 _ rfl 1 _ rfl
   generalize hgb : wr.heap.size = gb at *
   have HV2 := hide (HV.out.below HB2.out)
   clear c0 c1 HB
   generalize wr.alloc (.cells #[.int .i64 r, .int .i64 s] 33) = u at *
   clear hgb
   rcases hm : mayD (r, s) with _ | _
   ·have HM := hide hm
    have HNO : Hid (rowsB l = false) := rows_may HX.out hm
    clear hm
    refine wp_region_held_drew (S := fun W => Below u.heap.size u W) (by kernel_rfl) ((Below.refl _ u).drew) (fun hS0 => ?_)
    refine tkL 0 12 hS0 ?h ?_; case h => (intro W hW; have e0 := bcell hW d0; have e1 := bcell hW d1; clear hW; go_simp; try rfl); simp only [ly]
    refine wpAnyH_ready (rs := [1]) (by kernel_rfl) (by simp) ?_
    refine AllReadyH.cons rfl (fun K hK => ?_) AllReadyH.nil
    go_simp
    refine (May_any r s _).mono ?_
    rintro e w' ⟨rfl, hg⟩
    rw [show mayD (r, s) = false from HM.out]
    have hb := hg.bel
    refine hK.out _ _ ?hs2 (fun hS1 => ?_)
    case hs2 => exact bel_next hS0 hb
    clear hK K hb
    try simp only [ly]
    refine tkJ 2 14 hS1 ?_; simp only [ly]
    refine tkJ 3 15 hS1 ?_; simp only [ly]
    refine tkM 4 16 hS1 ?_; simp only [ly]
    refine tkM 5 17 hS1 ?_; simp only [ly]
    refine tkM 6 18 hS1 ?_; simp only [ly]
    refine tkM 7 19 hS1 ?_; simp only [ly]
    refine tkM 8 20 hS1 ?_; simp only [ly]
    refine tkM 9 21 hS1 ?_; simp only [ly]
    refine tkM 10 22 hS1 ?_; simp only [ly]
    refine tkM 11 23 hS1 ?_; simp only [ly]
    refine tkM 12 24 hS1 ?_; simp only [ly]
    refine tkM 13 25 hS1 ?_; simp only [ly]
    refine tkM 14 26 hS1 ?_; simp only [ly]
    refine tkM 15 27 hS1 ?_; simp only [ly]
    refine tkJ 16 28 hS1 ?_; simp only [ly]
    refine wpAnyH_done (by kernel_rfl) ?_ _
    go_wp2
    go_ret
    exact ⟨by rw [HNO.out]; simp, bel_next HB2.out hS1⟩
   ·have HM := hide hm
    clear hm
    rcases k0 with _ | j
    ·have HF2 : Hid (rowsB (l.take (0 + 1)) = true) := rows_step HX.out HF.out HM.out (fun j c h => by omega)
     simp only [Nat.zero_add] at HF2
     refine wp_region_held_drew (S := fun W => Below u.heap.size u W) (by kernel_rfl) ((Below.refl _ u).drew) (fun hS0 => ?_)
     refine tkL 0 12 hS0 ?h ?_; case h => (intro W hW; have e0 := bcell hW d0; have e1 := bcell hW d1; clear hW; go_simp; try rfl); simp only [ly]
     refine wpAnyH_ready (rs := [1]) (by kernel_rfl) (by simp) ?_
     refine AllReadyH.cons rfl (fun K hK => ?_) AllReadyH.nil
     go_simp
     refine (May_any r s _).mono ?_
     rintro e w' ⟨rfl, hg⟩
     rw [show mayD (r, s) = true from HM.out]
     have hb := hg.bel
     refine hK.out _ _ ?hs7 (fun hS1 => ?_)
     case hs7 => exact bel_next hS0 hb
     clear hK K hb
     try simp only [ly]
     refine tkJ 2 14 hS1 ?_; simp only [ly]
     refine tkJ 3 15 hS1 ?_; simp only [ly]
     refine tkJ 4 16 hS1 ?_; simp only [ly]
     refine tkJ 5 17 hS1 ?_; simp only [ly]
     refine tkJ 6 18 hS1 ?_; simp only [ly]
     refine tkM 7 19 hS1 ?_; simp only [ly]
     refine tkM 8 20 hS1 ?_; simp only [ly]
     refine tkM 9 21 hS1 ?_; simp only [ly]
     refine tkM 10 22 hS1 ?_; simp only [ly]
     refine tkM 11 23 hS1 ?_; simp only [ly]
     refine tkM 12 24 hS1 ?_; simp only [ly]
     refine tkM 13 25 hS1 ?_; simp only [ly]
     refine tkM 14 26 hS1 ?_; simp only [ly]
     refine tkJ 15 27 hS1 ?_; simp only [ly]
     refine tkJ 16 28 hS1 ?_; simp only [ly]
     refine wpAnyH_done (by kernel_rfl) ?_ _
     go_wp2
     go_roundw
     case rel => exact ⟨1, by omega, by go_num, HF2, (show Hid _ from bel_next HB2.out hS1)⟩
     case measure => simp [intOf]; omega
    ·obtain ⟨p, q, hp, p0, p1⟩ := HV2.out.one j (by omega)
     have HP := hide hp
     clear hp
     have hwj := wrapN (show j ≤ 9223372036854775807 by omega)
     have hj0 : ((j : Int)) + 1 < (n : Int) := by omega
     have hj1 : (j : Int) < (n : Int) := by omega
     have hj2 : (0 : Int) ≤ (j : Int) := by omega
     rcases hl : lessD (p, q) (r, s) with _ | _
     ·have HL := hide hl
      have HNO : Hid (rowsB l = false) := rows_less HP.out HX.out hl
      clear hl
      refine wp_region_held_drew (S := fun W => Below u.heap.size u W) (by kernel_rfl) ((Below.refl _ u).drew) (fun hS0 => ?_)
      refine tkL 0 12 hS0 ?h ?_; case h => (intro W hW; have e0 := bcell hW d0; have e1 := bcell hW d1; have e2 := bcell hW p0; have e3 := bcell hW p1; clear hW; go_simp; try rfl); simp only [ly]
      refine wpAnyH_ready (rs := [1]) (by kernel_rfl) (by simp) ?_
      refine AllReadyH.cons rfl (fun K hK => ?_) AllReadyH.nil
      go_simp
      refine (May_any r s _).mono ?_
      rintro e w' ⟨rfl, hg⟩
      rw [show mayD (r, s) = true from HM.out]
      have hb := hg.bel
      refine hK.out _ _ ?hs33 (fun hS1 => ?_)
      case hs33 => exact bel_next hS0 hb
      clear hK K hb
      try simp only [ly]
      refine tkJ 2 14 hS1 ?_; simp only [ly]
      refine tkJ 3 15 hS1 ?_; simp only [ly]
      refine tkJ 4 16 hS1 ?_; simp only [ly]
      refine tkJ 5 17 hS1 ?_; simp only [ly]
      refine tkJ 6 18 hS1 ?_; simp only [ly]
      refine tkJ 7 19 hS1 ?_; simp only [ly]
      refine tkJ 8 20 hS1 ?_; simp only [ly]
      refine tkJ 9 21 hS1 ?_; simp only [ly]
      refine tkJ 10 22 hS1 ?_; simp only [ly]
      refine tkL 11 23 hS1 ?h ?_; case h => (intro W hW; have e0 := bcell hW d0; have e1 := bcell hW d1; have e2 := bcell hW p0; have e3 := bcell hW p1; clear hW; go_simp; try rfl); simp only [ly]
      refine tkL 12 24 hS1 ?h ?_; case h => (intro W hW; have e0 := bcell hW d0; have e1 := bcell hW d1; have e2 := bcell hW p0; have e3 := bcell hW p1; clear hW; go_simp; try rfl); simp only [ly]
      refine wpAnyH_ready (rs := [13]) (by kernel_rfl) (by simp) ?_
      refine AllReadyH.cons rfl (fun K hK => ?_) AllReadyH.nil
      go_simp
      refine (Less_any (p, q) (r, s) _).mono ?_
      rintro e w' ⟨rfl, hg⟩
      rw [show lessD (p, q) (r, s) = false from HL.out]
      have hb := hg.bel
      refine hK.out _ _ ?hs45 (fun hS2 => ?_)
      case hs45 => exact bel_next hS1 hb
      clear hK K hb
      try simp only [ly]
      refine tkJ 14 26 hS2 ?_; simp only [ly]
      refine tkJ 15 27 hS2 ?_; simp only [ly]
      refine tkJ 16 28 hS2 ?_; simp only [ly]
      refine wpAnyH_done (by kernel_rfl) ?_ _
      go_wp2
      go_ret
      exact ⟨by rw [HNO.out]; simp, bel_next HB2.out hS2⟩
     ·have HL := hide hl
      have HF2 : Hid (rowsB (l.take (j + 1 + 1)) = true) := rows_stepS HX.out HP.out HF.out HM.out hl
      clear hl
      refine wp_region_held_drew (S := fun W => Below u.heap.size u W) (by kernel_rfl) ((Below.refl _ u).drew) (fun hS0 => ?_)
      refine tkL 0 12 hS0 ?h ?_; case h => (intro W hW; have e0 := bcell hW d0; have e1 := bcell hW d1; have e2 := bcell hW p0; have e3 := bcell hW p1; clear hW; go_simp; try rfl); simp only [ly]
      refine wpAnyH_ready (rs := [1]) (by kernel_rfl) (by simp) ?_
      refine AllReadyH.cons rfl (fun K hK => ?_) AllReadyH.nil
      go_simp
      refine (May_any r s _).mono ?_
      rintro e w' ⟨rfl, hg⟩
      rw [show mayD (r, s) = true from HM.out]
      have hb := hg.bel
      refine hK.out _ _ ?hs16 (fun hS1 => ?_)
      case hs16 => exact bel_next hS0 hb
      clear hK K hb
      try simp only [ly]
      refine tkJ 2 14 hS1 ?_; simp only [ly]
      refine tkJ 3 15 hS1 ?_; simp only [ly]
      refine tkJ 4 16 hS1 ?_; simp only [ly]
      refine tkJ 5 17 hS1 ?_; simp only [ly]
      refine tkJ 6 18 hS1 ?_; simp only [ly]
      refine tkJ 7 19 hS1 ?_; simp only [ly]
      refine tkJ 8 20 hS1 ?_; simp only [ly]
      refine tkJ 9 21 hS1 ?_; simp only [ly]
      refine tkJ 10 22 hS1 ?_; simp only [ly]
      refine tkL 11 23 hS1 ?h ?_; case h => (intro W hW; have e0 := bcell hW d0; have e1 := bcell hW d1; have e2 := bcell hW p0; have e3 := bcell hW p1; clear hW; go_simp; try rfl); simp only [ly]
      refine tkL 12 24 hS1 ?h ?_; case h => (intro W hW; have e0 := bcell hW d0; have e1 := bcell hW d1; have e2 := bcell hW p0; have e3 := bcell hW p1; clear hW; go_simp; try rfl); simp only [ly]
      refine wpAnyH_ready (rs := [13]) (by kernel_rfl) (by simp) ?_
      refine AllReadyH.cons rfl (fun K hK => ?_) AllReadyH.nil
      go_simp
      refine (Less_any (p, q) (r, s) _).mono ?_
      rintro e w' ⟨rfl, hg⟩
      rw [show lessD (p, q) (r, s) = true from HL.out]
      have hb := hg.bel
      refine hK.out _ _ ?hs28 (fun hS2 => ?_)
      case hs28 => exact bel_next hS1 hb
      clear hK K hb
      try simp only [ly]
      refine tkJ 14 26 hS2 ?_; simp only [ly]
      refine tkJ 15 27 hS2 ?_; simp only [ly]
      refine tkJ 16 28 hS2 ?_; simp only [ly]
      refine wpAnyH_done (by kernel_rfl) ?_ _
      go_wp2
      go_roundw
      case rel => exact ⟨j + 1 + 1, by omega, by go_num, HF2, (show Hid _ from bel_next HB2.out hS2)⟩
      case measure => simp [intOf]; omega
  ·obtain rfl : k0 = n := by omega
   have HR : Hid (rowsB l = true) := by have := HF.out; rwa [← HV.out.1, List.take_length] at this
   have HN := hide HV.out.1
   clear HF
   go_wp2
   go_ret
   refine ⟨?_, HB.out⟩
   rw [HR.out, Bool.and_true]
   rcases l with _ | ⟨x, l⟩
   ·have := HN.out; simp at this; subst this; rfl
   ·have := HN.out; simp at this
    subst this
    simp
end Go.Proofs.YtkbbegbpkndebaaGreat

