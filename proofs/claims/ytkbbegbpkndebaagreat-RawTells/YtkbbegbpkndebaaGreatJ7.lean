/- Texts of this claim, joined: A3, KC, A4. -/
import Derived.Test.YtkbbegbpkndebaaGreatJ3
import Derived.Test.YtkbbegbpkndebaaGreatJ6
/- What the program checks of a set (layer 8), 2. -/
namespace Go.Proofs.YtkbbegbpkndebaaGreat
open Go.RowKit Go.Lib
set_option linter.unusedVariables false
set_option maxHeartbeats 1000000 in
theorem mayBeEntry_any (k : ByteArray) (pl : Option Addr) (nl cl : Nat) (pd : Option Addr) (nd cd : Nat) (l m : List Dot) (w : World) (hl : DS w pl nl l) (hm : DS w pd nd m) : Calls Tryz.prog 179 #[.agg #[.string k, .slice pl nl cl, .slice pd nd cd]] w fun e w' => e = .returned (.bool (mayN (k, l, m))) ∧ Below w.heap.size w w' := by
 have HL := hide hl
 have HD : Hid (nd = 0 ↔ m = []) := by
  have := hm.1
  constructor
  ·intro h; exact List.eq_nil_of_length_eq_zero (by omega)
  ·intro h; rw [h] at this; exact this.symm
 clear hl hm
 rcases h1 : mayK k with _ | _
 ·have H1 := hide h1
  have HR : Hid (mayN (k, l, m) = false) := by unfold Hid mayN; simp [h1]
  clear h1
  go_enter Tryz.func179, Tryz.ntmps179
  go_wp2_with (go_at_call 193; refine (mayBeKey_any k _).mono ?_; rintro e w1 ⟨rfl, hb1⟩; rw [H1.out])
  go_ret
  exact ⟨by simp [HR.out], bel_next (bel1 _ _) hb1⟩
 ·have H1 := hide h1
  rcases h2 : (decide (l ≠ []) && rowsB l) with _ | _
  ·have H2 := hide h2
   have HR : Hid (mayN (k, l, m) = false) := by
    unfold Hid mayN
    simp only [Bool.and_eq_false_iff, decide_eq_false_iff_not] at h2 ⊢
    rcases h2 with h2 | h2
    ·exact .inl (.inl (.inr h2))
    ·exact .inr h2
   clear h1 h2
   go_enter Tryz.func179, Tryz.ntmps179
   go_wp2_with (first | (go_at_call 193; refine (mayBeKey_any k _).mono ?_; rintro e w1 ⟨rfl, hb1⟩; rw [H1.out]; have d1 := bcell hb1 (cell_new w #[.string k, .slice pl nl cl, .slice pd nd cd] 125 _ rfl 1 _ rfl); have BB := hide (bel_next (bel1 _ _) hb1); clear hb1) | (go_at_call 210; refine (mayBeLive_any pl nl cl l _ (HL.out.below BB.out)).mono ?_; rintro e w2 ⟨rfl, hb2⟩; rw [H2.out]))
   go_ret
   exact ⟨by simp [HR.out], bel_next BB.out hb2⟩
  ·have H2 := hide h2
   have HR : Hid (mayN (k, l, m) = decide (nd = 0)) := by
    unfold Hid mayN
    simp only [Bool.and_eq_true, decide_eq_true_eq] at h2
    simp [h1, h2.1, h2.2, HD.out]
   clear h1 h2
   go_enter Tryz.func179, Tryz.ntmps179
   go_wp2_with (first | (go_at_call 193; refine (mayBeKey_any k _).mono ?_; rintro e w1 ⟨rfl, hb1⟩; rw [H1.out]; have d1 := bcell hb1 (cell_new w #[.string k, .slice pl nl cl, .slice pd nd cd] 125 _ rfl 1 _ rfl); have d2 := bcell hb1 (cell_new w #[.string k, .slice pl nl cl, .slice pd nd cd] 125 _ rfl 2 _ rfl); have BB := hide (bel_next (bel1 _ _) hb1); clear hb1) | (go_at_call 210; refine (mayBeLive_any pl nl cl l _ (HL.out.below BB.out)).mono ?_; rintro e w2 ⟨rfl, hb2⟩; rw [H2.out]; have d3 := bcell hb2 d2; have B3 := hide (bel_next BB.out hb2); clear hb2 d1 d2))
   go_ret
   exact ⟨by rw [HR.out]; by_cases hz : nd = 0 <;> simp [hz], B3.out⟩
set_option maxHeartbeats 4000000 in
theorem Check_any (a : Option Addr) (n cap : Nat) (s : List En) (w : World) (hA : NSS w a n s) : Calls Tryz.prog 126 #[.slice a n cap] w fun e w' => e = .returned (.int .i64 (chkS s)) ∧ Below w.heap.size w w' := by
 have HV := hide hA
 have hmx := hA.max
 have HLEN := hide hA.len
 unfold maxLen at hmx
 clear hA
 by_cases hbig : (4000 : Int) < (n : Int)
 ·have HR : Hid (chkS s = 1) := by
   unfold Hid chkS
   rw [if_neg]
   intro h
   have := (mayS_iff.1 h).2.2
   rw [HLEN.out] at this
   omega
  go_enter Tryz.func126, Tryz.ntmps126
  go_wp2
  go_ret
  exact ⟨by simp [HR.out], Below.refl _ _⟩
 ·go_enter Tryz.func126, Tryz.ntmps126
  go_wp2
  go_loopw [10] (fun i wr => ∃ k : Nat, k ≤ n ∧ i = .int .i64 k ∧ Hid ((s.take k).all mayN = true ∧ SrtK (s.take k)) ∧ Hid (Below w.heap.size w wr)) (fun i _ => n - (intOf i).toNat)
  case atStart => exact ⟨0, by omega, rfl, (show _ ∧ _ by simp [SrtK]), Below.refl _ _⟩
  case round =>
   obtain ⟨k0, hk, rfl, HF, HB⟩ := hrel
   by_cases hlt : k0 < n
   ·obtain ⟨b, off, rfl⟩ := HV.out.addr (by omega)
    obtain ⟨k, pl, nl, cl, pd, nd, cd, ll, mm, hx, c0, c1, c2, hdl, hcl, hdd, hcd⟩ := (HV.out.below HB.out).at k0 hlt
    have hk0 : (0 : Int) ≤ (k0 : Int) := by omega
    have hk1 : (k0 : Int) < (n : Int) := by omega
    have HX := hide hx
    clear hx hcl hcd
    go_upto_region 6 with fail
    have HB2 : Hid (Below w.heap.size w (wr.alloc (.cells #[.string k, .slice pl nl cl, .slice pd nd cd] 125))) := HB.out.alloc HB.out.size _
    have d0 := cell_new wr #[.string k, .slice pl nl cl, .slice pd nd cd] 125 _ rfl 0 _ rfl
    have d1 := cell_new wr #[.string k, .slice pl nl cl, .slice pd nd cd] 125 _ rfl 1 _ rfl
    have d2 := cell_new wr #[.string k, .slice pl nl cl, .slice pd nd cd] 125 _ rfl 2 _ rfl
    have HL := hide (hdl.below (bel1 wr (.cells #[.string k, .slice pl nl cl, .slice pd nd cd] 125)))
    have HD := hide (hdd.below (bel1 wr (.cells #[.string k, .slice pl nl cl, .slice pd nd cd] 125)))
    generalize hgb : wr.heap.size = gb at *
    have HV2 := hide (HV.out.below HB2.out)
    clear c0 c1 c2 HB hdl hdd
    generalize wr.alloc (.cells #[.string k, .slice pl nl cl, .slice pd nd cd] 125) = u at *
    clear hgb
    rcases hm : mayN (k, ll, mm) with _ | _
    ·have HM := hide hm
     have HNO : Hid (chkS s = 1) := by unfold Hid chkS; rw [set_may HX.out hm]; rfl
     clear hm
     refine wp_region_held_drew (S := fun W => Below u.heap.size u W) (by kernel_rfl) ((Below.refl _ u).drew) (fun hS0 => ?_)
     refine tkL 0 15 hS0 ?h ?_; case h => (intro W hW; have e0 := bcell hW d0; have e1 := bcell hW d1; have e2 := bcell hW d2; clear hW; go_simp; try rfl); simp only [ly]
     refine wpAnyH_ready (rs := [1]) (by kernel_rfl) (by simp) ?_
     refine AllReadyH.cons rfl (fun K hK => ?_) AllReadyH.nil
     go_simp
     refine (mayBeEntry_any k pl nl cl pd nd cd ll mm _ (HL.out.below hS0) (HD.out.below hS0)).mono ?_
     rintro e w' ⟨rfl, hb⟩
     rw [show mayN (k, ll, mm) = false from HM.out]
     refine hK.out _ _ ?hs2 (fun hS1 => ?_)
     case hs2 => exact bel_next hS0 hb
     clear hK K hb
     try simp only [ly]
     refine tkJ 2 17 hS1 ?_; simp only [ly]
     refine tkJ 3 18 hS1 ?_; simp only [ly]
     refine tkM 4 19 hS1 ?_; simp only [ly]
     refine tkM 5 20 hS1 ?_; simp only [ly]
     refine tkM 6 21 hS1 ?_; simp only [ly]
     refine tkM 7 22 hS1 ?_; simp only [ly]
     refine tkM 8 23 hS1 ?_; simp only [ly]
     refine tkM 9 24 hS1 ?_; simp only [ly]
     refine tkM 10 25 hS1 ?_; simp only [ly]
     refine tkM 11 26 hS1 ?_; simp only [ly]
     refine tkM 12 27 hS1 ?_; simp only [ly]
     refine tkM 13 28 hS1 ?_; simp only [ly]
     refine tkM 14 29 hS1 ?_; simp only [ly]
     refine tkM 15 30 hS1 ?_; simp only [ly]
     refine tkM 16 31 hS1 ?_; simp only [ly]
     refine tkJ 17 32 hS1 ?_; simp only [ly]
     refine wpAnyH_done (by kernel_rfl) ?_ _
     go_wp2
     go_ret
     exact ⟨by rw [HNO.out]; simp, bel_next HB2.out hS1⟩
    ·have HM := hide hm
     clear hm
     rcases k0 with _ | j
     ·have HF2 : Hid ((s.take (0 + 1)).all mayN = true ∧ SrtK (s.take (0 + 1))) := set_step HX.out HF.out HM.out (fun j c h => by omega)
      simp only [Nat.zero_add] at HF2
      refine wp_region_held_drew (S := fun W => Below u.heap.size u W) (by kernel_rfl) ((Below.refl _ u).drew) (fun hS0 => ?_)
      refine tkL 0 15 hS0 ?h ?_; case h => (intro W hW; have e0 := bcell hW d0; have e1 := bcell hW d1; have e2 := bcell hW d2; clear hW; go_simp; try rfl); simp only [ly]
      refine wpAnyH_ready (rs := [1]) (by kernel_rfl) (by simp) ?_
      refine AllReadyH.cons rfl (fun K hK => ?_) AllReadyH.nil
      go_simp
      refine (mayBeEntry_any k pl nl cl pd nd cd ll mm _ (HL.out.below hS0) (HD.out.below hS0)).mono ?_
      rintro e w' ⟨rfl, hb⟩
      rw [show mayN (k, ll, mm) = true from HM.out]
      refine hK.out _ _ ?hs7 (fun hS1 => ?_)
      case hs7 => exact bel_next hS0 hb
      clear hK K hb
      try simp only [ly]
      refine tkJ 2 17 hS1 ?_; simp only [ly]
      refine tkJ 3 18 hS1 ?_; simp only [ly]
      refine tkJ 4 19 hS1 ?_; simp only [ly]
      refine tkJ 5 20 hS1 ?_; simp only [ly]
      refine tkJ 6 21 hS1 ?_; simp only [ly]
      refine tkM 7 22 hS1 ?_; simp only [ly]
      refine tkM 8 23 hS1 ?_; simp only [ly]
      refine tkM 9 24 hS1 ?_; simp only [ly]
      refine tkM 10 25 hS1 ?_; simp only [ly]
      refine tkM 11 26 hS1 ?_; simp only [ly]
      refine tkM 12 27 hS1 ?_; simp only [ly]
      refine tkM 13 28 hS1 ?_; simp only [ly]
      refine tkM 14 29 hS1 ?_; simp only [ly]
      refine tkM 15 30 hS1 ?_; simp only [ly]
      refine tkJ 16 31 hS1 ?_; simp only [ly]
      refine tkJ 17 32 hS1 ?_; simp only [ly]
      refine wpAnyH_done (by kernel_rfl) ?_ _
      go_wp2
      go_roundw
      case rel => exact ⟨1, by omega, by go_num, HF2, (show Hid _ from bel_next HB2.out hS1)⟩
      case measure => simp [intOf]; omega
     ·obtain ⟨kp, pl', nl', cl', pd', nd', cd', ll', mm', hp, p0, _, _, _, _, _, _⟩ := HV2.out.at j (by omega)
      have HP := hide hp
      clear hp
      have hwj := wrapN (show j ≤ 9223372036854775807 by omega)
      have hj0 : ((j : Int)) + 1 < (n : Int) := by omega
      have hj1 : (j : Int) < (n : Int) := by omega
      have hj2 : (0 : Int) ≤ (j : Int) := by omega
      rcases hl : Op.bytesLess kp.toList k.toList with _ | _
      ·have HNO : Hid (chkS s = 1) := by unfold Hid chkS; rw [set_less HP.out HX.out hl]; rfl
       refine wp_region_held_drew (S := fun W => Below u.heap.size u W) (by kernel_rfl) ((Below.refl _ u).drew) (fun hS0 => ?_)
       refine tkL 0 15 hS0 ?h ?_; case h => (intro W hW; have e0 := bcell hW d0; have e1 := bcell hW d1; have e2 := bcell hW d2; have e3 := bcell hW p0; clear hW; go_simp; try rfl); simp only [ly]
       refine wpAnyH_ready (rs := [1]) (by kernel_rfl) (by simp) ?_
       refine AllReadyH.cons rfl (fun K hK => ?_) AllReadyH.nil
       go_simp
       refine (mayBeEntry_any k pl nl cl pd nd cd ll mm _ (HL.out.below hS0) (HD.out.below hS0)).mono ?_
       rintro e w' ⟨rfl, hb⟩
       rw [show mayN (k, ll, mm) = true from HM.out]
       refine hK.out _ _ ?hs34 (fun hS1 => ?_)
       case hs34 => exact bel_next hS0 hb
       clear hK K hb
       try simp only [ly]
       refine tkJ 2 17 hS1 ?_; simp only [ly]
       refine tkJ 3 18 hS1 ?_; simp only [ly]
       refine tkJ 4 19 hS1 ?_; simp only [ly]
       refine tkJ 5 20 hS1 ?_; simp only [ly]
       refine tkJ 6 21 hS1 ?_; simp only [ly]
       refine tkJ 7 22 hS1 ?_; simp only [ly]
       refine tkJ 8 23 hS1 ?_; simp only [ly]
       refine tkJ 9 24 hS1 ?_; simp only [ly]
       refine tkJ 10 25 hS1 ?_; simp only [ly]
       refine tkJ 11 26 hS1 ?_; simp only [ly]
       refine tkL 12 27 hS1 ?h ?_; case h => (intro W hW; have e0 := bcell hW d0; have e1 := bcell hW d1; have e2 := bcell hW d2; have e3 := bcell hW p0; clear hW; go_simp; try rfl); simp only [ly]
       refine tkJ 13 28 hS1 ?_; simp only [ly]
       refine tkL 14 29 hS1 ?h ?_; case h => (intro W hW; have e0 := bcell hW d0; have e1 := bcell hW d1; have e2 := bcell hW d2; have e3 := bcell hW p0; clear hW; go_simp; try rfl); simp only [ly]
       refine tkJ 15 30 hS1 ?_; simp only [ly]
       refine tkJ 16 31 hS1 ?_; simp only [ly]
       refine tkJ 17 32 hS1 ?_; simp only [ly]
       refine wpAnyH_done (by kernel_rfl) ?_ _
       go_wp2
       go_ret
       exact ⟨by rw [HNO.out]; simp, bel_next HB2.out hS1⟩
      ·have HF2 : Hid ((s.take (j + 1 + 1)).all mayN = true ∧ SrtK (s.take (j + 1 + 1))) := set_stepS HX.out HP.out HF.out HM.out hl
       refine wp_region_held_drew (S := fun W => Below u.heap.size u W) (by kernel_rfl) ((Below.refl _ u).drew) (fun hS0 => ?_)
       refine tkL 0 15 hS0 ?h ?_; case h => (intro W hW; have e0 := bcell hW d0; have e1 := bcell hW d1; have e2 := bcell hW d2; have e3 := bcell hW p0; clear hW; go_simp; try rfl); simp only [ly]
       refine wpAnyH_ready (rs := [1]) (by kernel_rfl) (by simp) ?_
       refine AllReadyH.cons rfl (fun K hK => ?_) AllReadyH.nil
       go_simp
       refine (mayBeEntry_any k pl nl cl pd nd cd ll mm _ (HL.out.below hS0) (HD.out.below hS0)).mono ?_
       rintro e w' ⟨rfl, hb⟩
       rw [show mayN (k, ll, mm) = true from HM.out]
       refine hK.out _ _ ?hs16 (fun hS1 => ?_)
       case hs16 => exact bel_next hS0 hb
       clear hK K hb
       try simp only [ly]
       refine tkJ 2 17 hS1 ?_; simp only [ly]
       refine tkJ 3 18 hS1 ?_; simp only [ly]
       refine tkJ 4 19 hS1 ?_; simp only [ly]
       refine tkJ 5 20 hS1 ?_; simp only [ly]
       refine tkJ 6 21 hS1 ?_; simp only [ly]
       refine tkJ 7 22 hS1 ?_; simp only [ly]
       refine tkJ 8 23 hS1 ?_; simp only [ly]
       refine tkJ 9 24 hS1 ?_; simp only [ly]
       refine tkJ 10 25 hS1 ?_; simp only [ly]
       refine tkJ 11 26 hS1 ?_; simp only [ly]
       refine tkL 12 27 hS1 ?h ?_; case h => (intro W hW; have e0 := bcell hW d0; have e1 := bcell hW d1; have e2 := bcell hW d2; have e3 := bcell hW p0; clear hW; go_simp; try rfl); simp only [ly]
       refine tkJ 13 28 hS1 ?_; simp only [ly]
       refine tkL 14 29 hS1 ?h ?_; case h => (intro W hW; have e0 := bcell hW d0; have e1 := bcell hW d1; have e2 := bcell hW d2; have e3 := bcell hW p0; clear hW; go_simp; try rfl); simp only [ly]
       refine tkJ 15 30 hS1 ?_; simp only [ly]
       refine tkJ 16 31 hS1 ?_; simp only [ly]
       refine tkJ 17 32 hS1 ?_; simp only [ly]
       refine wpAnyH_done (by kernel_rfl) ?_ _
       go_wp2
       go_roundw
       case rel => exact ⟨j + 1 + 1, by omega, by go_num, HF2, (show Hid _ from bel_next HB2.out hS1)⟩
       case measure => simp [intOf]; omega
   ·obtain rfl : k0 = n := by omega
    have HR : Hid (chkS s = 0) := by
     have h := HF.out
     rw [← HLEN.out, List.take_length] at h
     unfold Hid chkS
     rw [if_pos]
     exact mayS_iff.2 ⟨by simpa using h.1, h.2, by rw [HLEN.out]; omega⟩
    clear HF
    go_wp2
    go_ret
    exact ⟨by simp [HR.out], HB.out⟩
end Go.Proofs.YtkbbegbpkndebaaGreat

/- strings.Compare: which of two texts comes first. -/
namespace Go.Proofs.YtkbbegbpkndebaaGreat
open Go.RowKit Go.Lib
set_option linter.unusedVariables false
set_option maxRecDepth 4000 in
set_option maxHeartbeats 400000 in
theorem compareS_any (a b : ByteArray) (w : World) : Calls Tryz.prog 248 #[.string a, .string b] w fun e w' => e = .returned (.int .i64 (cmpK a b)) ∧ w' = w := by
 have HC := hide (cmpK_is a b)
 go_enter Tryz.func248, Tryz.ntmps248
 go_wp2
 rw [run_callFunc_extern Tryz.func265 (by kernel_rfl) (by kernel_rfl) (by kernel_rfl) (e := Extern.BytealgCompare.compare) (by kernel_rfl), Lib.run_compareString, HC.out]
 simp only [Result.andThen]
 rw [Oper.upon_value]
 go_wp2
 go_ret
 exact ⟨rfl, rfl⟩
set_option maxRecDepth 4000 in
set_option maxHeartbeats 400000 in
theorem Compare_any (a b : ByteArray) (w : World) : Calls Tryz.prog 232 #[.string a, .string b] w fun e w' => e = .returned (.int .i64 (cmpK a b)) ∧ w' = w := by
 go_enter Tryz.func232, Tryz.ntmps232
 go_wp2_with (go_at_call 248; refine (compareS_any _ _ _).mono ?_; rintro e w' ⟨rfl, rfl⟩)
 go_ret
 exact ⟨rfl, rfl⟩
end Go.Proofs.YtkbbegbpkndebaaGreat

/- Where a key stands in a set (layer 8). -/
namespace Go.Proofs.YtkbbegbpkndebaaGreat
open Go.RowKit Go.Lib
set_option linter.unusedVariables false
set_option maxHeartbeats 400000 in
theorem place1_any (k t : ByteArray) (vl vd : Value) (w : World) : Calls Tryz.prog 235 #[.agg #[.string k, vl, vd], .string t] w fun e w' => e = .returned (.int .i64 (cmpK k t)) ∧ Below w.heap.size w w' := by
 go_enter Tryz.func235, Tryz.ntmps235
 go_wp2_with (go_at_call 232; refine (Compare_any _ _ _).mono ?_; rintro e w' ⟨rfl, rfl⟩)
 go_ret
 exact ⟨rfl, bel1 _ _⟩
theorem halve_lo {s : List En} (hs : SrtK s) {t : ByteArray} {h : Nat} {x : En} (hx : s[h]? = some x) (hl : ltK x.1 t = true) : ∀ j y, j < h + 1 → s[j]? = some y → ltK y.1 t = true := by
 intro j y hj hy
 rcases Nat.lt_or_ge j h with k | k
 ·exact ltK_trans (srt_lt hs hy hx k) hl
 ·obtain rfl : j = h := by omega
  rw [hx] at hy
  cases hy
  exact hl
theorem halve_hi {s : List En} (hs : SrtK s) {t : ByteArray} {h : Nat} {x : En} (hx : s[h]? = some x) (hl : ltK x.1 t = false) : ∀ j y, h ≤ j → s[j]? = some y → ltK y.1 t = false := by
 intro j y hj hy
 rcases Nat.lt_or_ge h j with k | k
 ·rcases hb : ltK y.1 t with _ | _
  ·rfl
  ·have := ltK_trans (srt_lt hs hx hy k) hb
   rw [hl] at this
   cases this
 ·obtain rfl : j = h := by omega
  rw [hx] at hy
  cases hy
  exact hl
def thereB (s : List En) (t : ByteArray) (i : Nat) : Bool := match s[i]? with
 | none => false
 | some x => decide (x.1 = t)
set_option maxHeartbeats 2000000 in
theorem searchK_any (a : Option Addr) (n cap : Nat) (s : List En) (t : ByteArray) (w : World) (hA : NSS w a n s) (hS : SrtK s) (hn : n ≤ 4000) :
  Calls Tryz.prog 230 #[.slice a n cap, .string t, .func (.func 235) #[] #[]] w fun e w' => (∃ i : Nat, e = .returned (.tuple #[.int .i64 i, .bool (thereB s t i)]) ∧ PlaceK s t i) ∧ Below w.heap.size w w' := by
 have HV := hide hA
 have HLEN := hide hA.len
 have HS := hide hS
 clear hA hS
 go_enter Tryz.func230, Tryz.ntmps230
 go_wp2
 go_loopw [9, 10] (fun vi vj wr => ∃ i j : Nat, i ≤ j ∧ j ≤ n ∧ vi = .int .i64 i ∧ vj = .int .i64 j ∧ Hid (Below w.heap.size w wr) ∧ Hid (∀ q x, q < i → s[q]? = some x → ltK x.1 t = true) ∧ Hid (∀ q x, j ≤ q → s[q]? = some x → ltK x.1 t = false)) (fun vi vj _ => (intOf vj).toNat - (intOf vi).toNat)
 case atStart => exact ⟨0, n, by omega, by omega, rfl, rfl, Below.refl _ _, fun q x h => absurd h (Nat.not_lt_zero _), fun q x h1 h2 => by have := (List.getElem?_eq_some_iff.1 h2).1; rw [HLEN.out] at this; omega⟩
 case round =>
  obtain ⟨i, j, hij, hjn, rfl, rfl, HB, H1, H2⟩ := hrel
  by_cases hlt : i < j
  ·obtain ⟨h, hh⟩ : ∃ h : Nat, h = (i + j) / 2 := ⟨_, rfl⟩
   have hih : i ≤ h := by omega
   have hhj : h < j := by omega
   have hI : ((i : Int) + (j : Int)) / 2 = (h : Int) := by omega
   have hh0 : (0 : Int) ≤ (h : Int) := by omega
   have hh1 : (h : Int) < (n : Int) := by omega
   clear hh
   obtain ⟨b, off, rfl⟩ := HV.out.addr (by omega)
   obtain ⟨k, pl, nl, cl, pd, nd, cd, ll, mm, hx, c0, c1, c2, _, _, _, _⟩ := (HV.out.below HB.out).at h (by omega)
   have HX := hide hx
   clear hx
   rcases hl : ltK k t with _ | _
   ·have hc : ¬ cmpK k t < 0 := by rw [cmpK_lt, hl]; simp
    have H3 := hide (halve_hi HS.out HX.out hl)
    clear hl
    have HCM := hide (place1_any k t (.slice pl nl cl) (.slice pd nd cd))
    generalize cmpK k t = z at *
    go_wp2_with (go_at_call 235; refine (HCM.out _).mono ?_; rintro e w' ⟨rfl, hb⟩)
    go_roundw
    case rel => exact ⟨i, h, hih, by omega, rfl, rfl, (show Hid _ from bel_next HB.out hb), H1, H3⟩
    case measure => simp [intOf]; omega
   ·have hc : cmpK k t < 0 := by rw [cmpK_lt, hl]
    have H3 := hide (halve_lo HS.out HX.out hl)
    clear hl
    have HCM := hide (place1_any k t (.slice pl nl cl) (.slice pd nd cd))
    generalize cmpK k t = z at *
    go_wp2_with (go_at_call 235; refine (HCM.out _).mono ?_; rintro e w' ⟨rfl, hb⟩)
    go_roundw
    case rel => exact ⟨h + 1, j, by omega, by omega, by go_num, rfl, (show Hid _ from bel_next HB.out hb), H3, H2⟩
    case measure => simp [intOf]; omega
  ·obtain rfl : i = j := by omega
   have HP : Hid (PlaceK s t i) := ⟨by rw [HLEN.out]; omega, H1.out, H2.out⟩
   clear H1 H2
   by_cases hin : i < n
   ·obtain ⟨b, off, rfl⟩ := HV.out.addr (by omega)
    obtain ⟨k, pl, nl, cl, pd, nd, cd, ll, mm, hx, c0, c1, c2, _, _, _, _⟩ := (HV.out.below HB.out).at i hin
    have HX : Hid (thereB s t i = (cmpK k t == 0)) := by
     unfold Hid thereB
     rw [hx, Bool.eq_iff_iff]
     simp [cmpK_eq]
    have hi0 : (0 : Int) ≤ (i : Int) := by omega
    have hi1 : (i : Int) < (n : Int) := by omega
    clear hx
    have HCM := hide (place1_any k t (.slice pl nl cl) (.slice pd nd cd))
    generalize cmpK k t = z at *
    go_wp2_with (go_at_call 235; refine (HCM.out _).mono ?_; rintro e w' ⟨rfl, hb⟩)
    go_ret2
    exact ⟨⟨i, by rw [HX.out]; rfl, HP.out⟩, bel_next HB.out hb⟩
   ·have HX : Hid (thereB s t i = false) := by
     unfold Hid thereB
     rw [List.getElem?_eq_none (by rw [HLEN.out]; omega)]
    go_wp2
    go_ret2
    exact ⟨⟨i, by rw [HX.out]; rfl, HP.out⟩, HB.out⟩
set_option maxHeartbeats 400000 in
theorem place_any (a : Option Addr) (n cap : Nat) (s : List En) (t : ByteArray) (w : World) (hA : NSS w a n s) (hS : SrtK s) (hn : n ≤ 4000) :
  Calls Tryz.prog 217 #[.slice a n cap, .string t] w fun e w' => (∃ i : Nat, e = .returned (.tuple #[.int .i64 i, .bool (thereB s t i)]) ∧ PlaceK s t i) ∧ Below w.heap.size w w' := by
 go_enter Tryz.func217, Tryz.ntmps217
 go_wp2_with (go_at_call 230; refine (searchK_any a n cap s t _ hA hS hn).mono ?_; rintro e w' ⟨⟨i, rfl, hp⟩, hb⟩)
 go_ret2
 exact ⟨⟨i, rfl, hp⟩, hb⟩
set_option maxHeartbeats 400000 in
theorem liveOf_any (a : Option Addr) (n cap : Nat) (s : List En) (t : ByteArray) (w : World) (hA : NSS w a n s) (hS : SrtK s) (hn : n ≤ 4000) :
  Calls Tryz.prog 196 #[.slice a n cap, .string t] w fun e w' => (∃ p m c, e = .returned (.slice p m c) ∧ DS w' p m (getS s t) ∧ CP p m c ∧ (m = 0 ∨ DS w p m (getS s t))) ∧ Below w.heap.size w w' := by
 have HV := hide hA
 have HLEN := hide hA.len
 have HS := hide hS
 have HPL := hide (place_any a n cap s t w hA hS hn)
 clear hA hS
 go_enter Tryz.func196, Tryz.ntmps196
 go_upto_region 2 with (go_at_call 217; refine HPL.out.mono ?_; rintro e w' ⟨⟨i, rfl, hp⟩, hb⟩)
 have HP := hide hp
 have HB := hide hb
 clear hp hb HPL
 rcases ht : thereB s t i with _ | _
 ·have HG : Hid (getS s t = []) := (place_not HS.out HP.out (fun x hx e => by unfold thereB at ht; rw [hx] at ht; simp [e] at ht) []).1
  go_wp2
  go_ret
  exact ⟨⟨none, 0, 0, rfl, by rw [HG.out]; exact DS.nil _ _, ⟨Nat.le_refl _, by decide, fun _ => rfl⟩, .inl rfl⟩, HB.out⟩
 ·obtain ⟨x, hx, he⟩ : ∃ x, s[i]? = some x ∧ x.1 = t := by
   unfold thereB at ht
   split at ht
   ·cases ht
   ·exact ⟨_, by assumption, by simpa using ht⟩
  have HG := hide (place_there HS.out HP.out hx he []).1
  have hin : i < n := by rw [← HLEN.out]; exact (List.getElem?_eq_some_iff.1 hx).1
  obtain ⟨b, off, rfl⟩ := HV.out.addr (by omega)
  obtain ⟨k, pl, nl, cl, pd, nd, cd, ll, mm, hx', c0, c1, c2, h1, h2, _, _⟩ := HV.out.at i hin
  rw [hx] at hx'
  cases hx'
  have e1 := bcell HB.out c1
  have hi0 : (0 : Int) ≤ (i : Int) := by omega
  have hi1 : (i : Int) < (n : Int) := by omega
  have H1 := hide h1
  have H2 := hide h2
  clear hx he c0 c1 c2 h1 h2
  go_wp2
  go_ret
  exact ⟨⟨pl, nl, cl, rfl, by rw [HG.out]; exact H1.out.below HB.out, H2.out, .inr (by rw [HG.out]; exact H1.out)⟩, HB.out⟩
end Go.Proofs.YtkbbegbpkndebaaGreat

