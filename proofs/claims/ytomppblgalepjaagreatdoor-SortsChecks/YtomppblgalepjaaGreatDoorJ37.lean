/- Texts of this claim, joined: OS. -/
import Derived.Test.YtomppblgalepjaaGreatDoorJ36
/- The program's builder: a clause's line (layer 16). -/
namespace Go.Proofs.YtomppblgalepjaaGreatDoor
open Go.RowKit Go.Lib
set_option linter.unusedVariables false
theorem Tryz.infoCl : (Tryz.prog.info? 43).map (fun i => (i.zero, i.size, i.bytes)) = some (some (.agg #[.int .i64 0, .bool false, .int .i64 0, .int .i64 0, .int .i64 0]), 5, 40) := by kernel_rfl
def frA (k : Int) : Int := if k = 4 ∨ k = 5 then 1 else if k = 9 then 2 else if k = 6 then 1 else if k = 7 then 2 else if k = 8 then 2 else 0
def frB (k : Int) : Int := if k = 4 ∨ k = 5 then 1 else if k = 9 then 1 else if k = 6 then 0 else if k = 7 then 0 else if k = 8 then 0 else 0
def frL (k : Int) : Bool := if k = 4 ∨ k = 5 then true else if k = 9 then true else if k = 6 then true else if k = 7 then true else if k = 8 then false else false
theorem frm_is (k : Int) : ∃ lo hi fs, frmV k = #[.int .i64 (frA k), .int .i64 (frB k), .int .i64 lo, .int .i64 hi, .bool fs, .bool (frL k)] ∧ (0 ≤ frA k ∧ frA k ≤ 100) ∧ (0 ≤ frB k ∧ frB k ≤ 100) := by
 unfold frmV frA frB frL
 by_cases h1 : k = 4 ∨ k = 5
 ·simp only [if_pos h1]; exact ⟨_, _, _, rfl, by decide, by decide⟩
 simp only [if_neg h1]
 by_cases h2 : k = 9
 ·simp only [if_pos h2]; exact ⟨_, _, _, rfl, by decide, by decide⟩
 simp only [if_neg h2]
 by_cases h3 : k = 6
 ·simp only [if_pos h3]; exact ⟨_, _, _, rfl, by decide, by decide⟩
 simp only [if_neg h3]
 by_cases h4 : k = 7
 ·simp only [if_pos h4]; exact ⟨_, _, _, rfl, by decide, by decide⟩
 simp only [if_neg h4]
 by_cases h5 : k = 8
 ·simp only [if_pos h5]; exact ⟨_, _, _, rfl, by decide, by decide⟩
 simp only [if_neg h5]
 exact ⟨_, _, _, rfl, by decide, by decide⟩
def lnP (fn : Int → ByteArray → Option Int) (kd : Int) (st : Bool) (nm ot : ByteArray) (n : Int) : Option Cl := match numO fn (frA kd) nm, numO fn (frB kd) ot with
 | some a, some b => some (kd, st || !frL kd, a, b, n)
 | _, _ => none
def blB (h : Int × Int × Int) (cl : Int) (G : List Int) (c : Option Cl) : Bool := match c with
 | some c => clsS h cl G c
 | none => false
set_option maxHeartbeats 8000000 in
set_option maxRecDepth 8000 in
theorem bclause16 (N gb D M k : Nat) (h : Int × Int × Int) (t1 t2 t3 cl op : Int) (S : List ByteArray) (G : List Int) (f : Int → Int → Int) (fn : Int → ByteArray → Option Int) (v1 v2 v3 v4 v5 : Value) (r : Ru) (kd : Int) (st : Bool) (nm ot : ByteArray) (n ln : Int) (p : Option Addr) (m c : Nat) (w0 w : World) (hD : BD N w gb D M h k ((t1, t2, t3, cl, op), S, G, f) fn v1 v2 v3 v4 v5 r) (hB : Below N w0 w) (hk : k ≤ 9000) (hs : nm.size ≤ maxLen) (hs2 : ot.size ≤ maxLen) (hc : 0 ≤ cl ∧ cl ≤ 1000) (hl : r.2.2.2.1.length ≤ 1000) (hh : h.2.1 ≤ 1000000) :
  Calls Tryz.prog 39 #[.pointer (some ⟨gb, 0, none⟩), .agg #[.int .i64 kd, .bool st, .string nm, .string ot, .int .i64 n, .slice p m c, .int .i64 ln]] w fun e w' => e = .returned (.bool (blB h cl G (lnP fn kd st nm ot n))) ∧ Below N w0 w' ∧ KpD w w' ∧ (blB h cl G (lnP fn kd st nm ot n) = true → ∃ c, lnP fn kd st nm ot n = some c ∧ ∃ v1 v2 v3 v4 v5, BD N w' gb D M h (k + 20) ((t1, t2, t3, cl + 1, op), S, flo8 c.1 c.2.2.1 G, f) fn v1 v2 v3 v4 v5 (r.1, r.2.1, r.2.2.1, r.2.2.2.1 ++ [c], r.2.2.2.2)) := by
 obtain ⟨hx, hsn, hmm, hw, hgb, hgmd, hgmn, hnw⟩ := hD
 have HK := hide hk
 have HCL := hide hc
 have HHM := hide hh
 have HZ1 := hide hs
 have HZ2 := hide hs2
 have HLN := hide hl
 have HGB := hide hgb
 have HGMD := hide hgmd
 have HGMN := hide hgmn
 have HGND : Hid (N ≤ D) := by unfold Hid; omega
 have HGN : Hid (N ≤ gb) := by unfold Hid; omega
 have HGM : Hid (gb ≠ M) := by unfold Hid; omega
 have hgw := hx.size
 have HX := hide hx
 have HSN := hide hsn
 have HMM := hide hmm
 have HW := hide hw
 have HB := hide hB
 have HNW := hide hnw
 have HGW := hide hgw
 have HNUM := hide (fun s x W (q1 : 0 ≤ s ∧ s ≤ 100) (q2 : x.size ≤ maxLen) (hW : Below w.heap.size w W) => number16 gb M v1 v2 v3 v4 v5 _ fn s x W (hx.below hW) (hmm.below hW) q1 q2)
 have HBL := hide (bel1 w (.cells #[.int .i64 kd, .bool st, .string nm, .string ot, .int .i64 n, .slice p m c, .int .i64 ln] 38))
 have HXD : Hid (BX (w.alloc (.cells #[.int .i64 kd, .bool st, .string nm, .string ot, .int .i64 n, .slice p m c, .int .i64 ln] 38)) w.heap.size #[.int .i64 kd, .bool st, .string nm, .string ot, .int .i64 n, .slice p m c, .int .i64 ln] 38) := BX.new w _ rfl _ _
 obtain ⟨lo, hi, fs, hfr, hq1, hq2⟩ := frm_is kd
 obtain ⟨fa, hfa⟩ : ∃ fa, frA kd = fa := ⟨_, rfl⟩
 obtain ⟨fb, hfb⟩ : ∃ fb, frB kd = fb := ⟨_, rfl⟩
 obtain ⟨fl, hfl⟩ : ∃ fl, frL kd = fl := ⟨_, rfl⟩
 rw [hfa, hfb, hfl] at hfr
 rw [hfa] at hq1
 rw [hfb] at hq2
 have HFR := hide hfr
 have HFA := hide hq1
 have HFB := hide hq2
 clear hx hsn hmm hw hgb hgmd hgmn hnw hk hs hs2 hc hl hh hB hgw hfr hq1 hq2
 rcases hn1 : numO fn fa nm with _ | z1
 ·have HN1 := hide hn1
  have HLP : Hid (lnP fn kd st nm ot n = none) := by unfold Hid lnP; rw [hfa, hn1]
  clear hn1 hfa hfb hfl
  rcases hn2 : numO fn fb ot with _ | z2
  ·have HN2 := hide hn2
   clear hn2
   go_enter Tryz.func39, Tryz.ntmps39
   go_upto_region 1 with fail
   generalize w.alloc (.cells #[.int .i64 kd, .bool st, .string nm, .string ot, .int .i64 n, .slice p m c, .int .i64 ln] 38) = u at *
   have d0 := HXD.out.cell 0 _ rfl
   have d1 := HXD.out.cell 1 _ rfl
   have d2 := HXD.out.cell 2 _ rfl
   have d3 := HXD.out.cell 3 _ rfl
   have d4 := HXD.out.cell 4 _ rfl
   have d5 := HXD.out.cell 5 _ rfl
   have d6 := HXD.out.cell 6 _ rfl
   clear HXD
   go_wp2_with (first | (go_at_call 56; refine (form16 kd _).mono ?_; rintro e w1 ⟨rfl, hb⟩; rw [HFR.out]; replace HBL := hide (bel_next HBL.out hb); replace d0 := bcell hb d0; replace d1 := bcell hb d1; replace d2 := bcell hb d2; replace d3 := bcell hb d3; replace d4 := bcell hb d4; replace d5 := bcell hb d5; replace d6 := bcell hb d6; have HB1 := hide hb; have hz1 := hb.size; have HBF := hide (bel_next HBL.out (bel1 w1 (.cells #[.int .i64 fa, .int .i64 fb, .int .i64 lo, .int .i64 hi, .bool fs, .bool fl] 99))); have d0f := cell_old (.cells #[.int .i64 fa, .int .i64 fb, .int .i64 lo, .int .i64 hi, .bool fs, .bool fl] 99) d0; have d1f := cell_old (.cells #[.int .i64 fa, .int .i64 fb, .int .i64 lo, .int .i64 hi, .bool fs, .bool fl] 99) d1; have d2f := cell_old (.cells #[.int .i64 fa, .int .i64 fb, .int .i64 lo, .int .i64 hi, .bool fs, .bool fl] 99) d2; have d3f := cell_old (.cells #[.int .i64 fa, .int .i64 fb, .int .i64 lo, .int .i64 hi, .bool fs, .bool fl] 99) d3; have d4f := cell_old (.cells #[.int .i64 fa, .int .i64 fb, .int .i64 lo, .int .i64 hi, .bool fs, .bool fl] 99) d4; have d5f := cell_old (.cells #[.int .i64 fa, .int .i64 fb, .int .i64 lo, .int .i64 hi, .bool fs, .bool fl] 99) d5; have d6f := cell_old (.cells #[.int .i64 fa, .int .i64 fb, .int .i64 lo, .int .i64 hi, .bool fs, .bool fl] 99) d6; clear hb) | (go_at_call 54; refine (HNUM.out _ _ _ (by first | exact HFA.out | exact HFB.out) (by first | exact HZ1.out | exact HZ2.out) HBF.out).mono ?_; rintro e w2 ⟨rfl, hw9⟩; have hw8 := hw9.symm; subst hw8; clear hw9; first | rw [HN1.out] | rw [HN2.out]))
   go_ret
   exact ⟨by rw [HLP.out]; rfl, HB.out.trans ((HBF.out.mono HNW.out)), (fun g C q => q.below HBF.out), fun hh => by rw [HLP.out] at hh; cases hh⟩
  ·have HN2 := hide hn2
   clear hn2
   go_enter Tryz.func39, Tryz.ntmps39
   go_upto_region 1 with fail
   generalize w.alloc (.cells #[.int .i64 kd, .bool st, .string nm, .string ot, .int .i64 n, .slice p m c, .int .i64 ln] 38) = u at *
   have d0 := HXD.out.cell 0 _ rfl
   have d1 := HXD.out.cell 1 _ rfl
   have d2 := HXD.out.cell 2 _ rfl
   have d3 := HXD.out.cell 3 _ rfl
   have d4 := HXD.out.cell 4 _ rfl
   have d5 := HXD.out.cell 5 _ rfl
   have d6 := HXD.out.cell 6 _ rfl
   clear HXD
   go_wp2_with (first | (go_at_call 56; refine (form16 kd _).mono ?_; rintro e w1 ⟨rfl, hb⟩; rw [HFR.out]; replace HBL := hide (bel_next HBL.out hb); replace d0 := bcell hb d0; replace d1 := bcell hb d1; replace d2 := bcell hb d2; replace d3 := bcell hb d3; replace d4 := bcell hb d4; replace d5 := bcell hb d5; replace d6 := bcell hb d6; have HB1 := hide hb; have hz1 := hb.size; have HBF := hide (bel_next HBL.out (bel1 w1 (.cells #[.int .i64 fa, .int .i64 fb, .int .i64 lo, .int .i64 hi, .bool fs, .bool fl] 99))); have d0f := cell_old (.cells #[.int .i64 fa, .int .i64 fb, .int .i64 lo, .int .i64 hi, .bool fs, .bool fl] 99) d0; have d1f := cell_old (.cells #[.int .i64 fa, .int .i64 fb, .int .i64 lo, .int .i64 hi, .bool fs, .bool fl] 99) d1; have d2f := cell_old (.cells #[.int .i64 fa, .int .i64 fb, .int .i64 lo, .int .i64 hi, .bool fs, .bool fl] 99) d2; have d3f := cell_old (.cells #[.int .i64 fa, .int .i64 fb, .int .i64 lo, .int .i64 hi, .bool fs, .bool fl] 99) d3; have d4f := cell_old (.cells #[.int .i64 fa, .int .i64 fb, .int .i64 lo, .int .i64 hi, .bool fs, .bool fl] 99) d4; have d5f := cell_old (.cells #[.int .i64 fa, .int .i64 fb, .int .i64 lo, .int .i64 hi, .bool fs, .bool fl] 99) d5; have d6f := cell_old (.cells #[.int .i64 fa, .int .i64 fb, .int .i64 lo, .int .i64 hi, .bool fs, .bool fl] 99) d6; clear hb) | (go_at_call 54; refine (HNUM.out _ _ _ (by first | exact HFA.out | exact HFB.out) (by first | exact HZ1.out | exact HZ2.out) HBF.out).mono ?_; rintro e w2 ⟨rfl, hw9⟩; have hw8 := hw9.symm; subst hw8; clear hw9; first | rw [HN1.out] | rw [HN2.out]))
   go_ret
   exact ⟨by rw [HLP.out]; rfl, HB.out.trans ((HBF.out.mono HNW.out)), (fun g C q => q.below HBF.out), fun hh => by rw [HLP.out] at hh; cases hh⟩
 have HN1 := hide hn1
 clear hn1
 rcases hn2 : numO fn fb ot with _ | z2
 ·have HN2 := hide hn2
  have HLP : Hid (lnP fn kd st nm ot n = none) := by unfold Hid lnP; rw [hfa, hfb, HN1.out, hn2]
  clear hn2 hfa hfb hfl
  go_enter Tryz.func39, Tryz.ntmps39
  go_upto_region 1 with fail
  generalize w.alloc (.cells #[.int .i64 kd, .bool st, .string nm, .string ot, .int .i64 n, .slice p m c, .int .i64 ln] 38) = u at *
  have d0 := HXD.out.cell 0 _ rfl
  have d1 := HXD.out.cell 1 _ rfl
  have d2 := HXD.out.cell 2 _ rfl
  have d3 := HXD.out.cell 3 _ rfl
  have d4 := HXD.out.cell 4 _ rfl
  have d5 := HXD.out.cell 5 _ rfl
  have d6 := HXD.out.cell 6 _ rfl
  clear HXD
  go_wp2_with (first | (go_at_call 56; refine (form16 kd _).mono ?_; rintro e w1 ⟨rfl, hb⟩; rw [HFR.out]; replace HBL := hide (bel_next HBL.out hb); replace d0 := bcell hb d0; replace d1 := bcell hb d1; replace d2 := bcell hb d2; replace d3 := bcell hb d3; replace d4 := bcell hb d4; replace d5 := bcell hb d5; replace d6 := bcell hb d6; have HB1 := hide hb; have hz1 := hb.size; have HBF := hide (bel_next HBL.out (bel1 w1 (.cells #[.int .i64 fa, .int .i64 fb, .int .i64 lo, .int .i64 hi, .bool fs, .bool fl] 99))); have d0f := cell_old (.cells #[.int .i64 fa, .int .i64 fb, .int .i64 lo, .int .i64 hi, .bool fs, .bool fl] 99) d0; have d1f := cell_old (.cells #[.int .i64 fa, .int .i64 fb, .int .i64 lo, .int .i64 hi, .bool fs, .bool fl] 99) d1; have d2f := cell_old (.cells #[.int .i64 fa, .int .i64 fb, .int .i64 lo, .int .i64 hi, .bool fs, .bool fl] 99) d2; have d3f := cell_old (.cells #[.int .i64 fa, .int .i64 fb, .int .i64 lo, .int .i64 hi, .bool fs, .bool fl] 99) d3; have d4f := cell_old (.cells #[.int .i64 fa, .int .i64 fb, .int .i64 lo, .int .i64 hi, .bool fs, .bool fl] 99) d4; have d5f := cell_old (.cells #[.int .i64 fa, .int .i64 fb, .int .i64 lo, .int .i64 hi, .bool fs, .bool fl] 99) d5; have d6f := cell_old (.cells #[.int .i64 fa, .int .i64 fb, .int .i64 lo, .int .i64 hi, .bool fs, .bool fl] 99) d6; clear hb) | (go_at_call 54; refine (HNUM.out _ _ _ (by first | exact HFA.out | exact HFB.out) (by first | exact HZ1.out | exact HZ2.out) HBF.out).mono ?_; rintro e w2 ⟨rfl, hw9⟩; have hw8 := hw9.symm; subst hw8; clear hw9; first | rw [HN1.out] | rw [HN2.out]))
  go_ret
  exact ⟨by rw [HLP.out]; rfl, HB.out.trans ((HBF.out.mono HNW.out)), (fun g C q => q.below HBF.out), fun hh => by rw [HLP.out] at hh; cases hh⟩
 have HN2 := hide hn2
 clear hn2
 cases st
 ·have HLP : Hid (lnP fn kd false nm ot n = some (kd, (!fl), z1, z2, n)) := by unfold Hid lnP; rw [hfa, hfb, hfl, HN1.out, HN2.out]; simp
  clear hfa hfb hfl
  go_enter Tryz.func39, Tryz.ntmps39
  go_upto_region 1 with fail
  generalize w.alloc (.cells #[.int .i64 kd, .bool false, .string nm, .string ot, .int .i64 n, .slice p m c, .int .i64 ln] 38) = u at *
  have d0 := HXD.out.cell 0 _ rfl
  have d1 := HXD.out.cell 1 _ rfl
  have d2 := HXD.out.cell 2 _ rfl
  have d3 := HXD.out.cell 3 _ rfl
  have d4 := HXD.out.cell 4 _ rfl
  have d5 := HXD.out.cell 5 _ rfl
  have d6 := HXD.out.cell 6 _ rfl
  clear HXD
  go_upto_region 6 with (first | (go_at_call 56; refine (form16 kd _).mono ?_; rintro e w1 ⟨rfl, hb⟩; rw [HFR.out]; replace HBL := hide (bel_next HBL.out hb); replace d0 := bcell hb d0; replace d1 := bcell hb d1; replace d2 := bcell hb d2; replace d3 := bcell hb d3; replace d4 := bcell hb d4; replace d5 := bcell hb d5; replace d6 := bcell hb d6; have HB1 := hide hb; have hz1 := hb.size; have HBF := hide (bel_next HBL.out (bel1 w1 (.cells #[.int .i64 fa, .int .i64 fb, .int .i64 lo, .int .i64 hi, .bool fs, .bool fl] 99))); have d0f := cell_old (.cells #[.int .i64 fa, .int .i64 fb, .int .i64 lo, .int .i64 hi, .bool fs, .bool fl] 99) d0; have d1f := cell_old (.cells #[.int .i64 fa, .int .i64 fb, .int .i64 lo, .int .i64 hi, .bool fs, .bool fl] 99) d1; have d2f := cell_old (.cells #[.int .i64 fa, .int .i64 fb, .int .i64 lo, .int .i64 hi, .bool fs, .bool fl] 99) d2; have d3f := cell_old (.cells #[.int .i64 fa, .int .i64 fb, .int .i64 lo, .int .i64 hi, .bool fs, .bool fl] 99) d3; have d4f := cell_old (.cells #[.int .i64 fa, .int .i64 fb, .int .i64 lo, .int .i64 hi, .bool fs, .bool fl] 99) d4; have d5f := cell_old (.cells #[.int .i64 fa, .int .i64 fb, .int .i64 lo, .int .i64 hi, .bool fs, .bool fl] 99) d5; have d6f := cell_old (.cells #[.int .i64 fa, .int .i64 fb, .int .i64 lo, .int .i64 hi, .bool fs, .bool fl] 99) d6; clear hb) | (go_at_call 54; refine (HNUM.out _ _ _ (by first | exact HFA.out | exact HFB.out) (by first | exact HZ1.out | exact HZ2.out) HBF.out).mono ?_; rintro e w2 ⟨rfl, hw9⟩; have hw8 := hw9.symm; subst hw8; clear hw9; first | rw [HN1.out] | rw [HN2.out]))
  go_upto_region 7 with fail
  generalize (!fl) = sz at *
  have hq := bel1 (w1.alloc (.cells #[.int .i64 fa, .int .i64 fb, .int .i64 lo, .int .i64 hi, .bool fs, .bool fl] 99)) (.cells #[.int .i64 kd, .bool sz, .int .i64 z1, .int .i64 z2, .int .i64 n] 43)
  have hsz1 : (w1.alloc (.cells #[.int .i64 fa, .int .i64 fb, .int .i64 lo, .int .i64 hi, .bool fs, .bool fl] 99)).heap.size = w1.heap.size + 1 := by simp
  have hle := HBF.out.size
  rw [hsz1] at hle
  have hgw2 := HGW.out
  have hgb2 := HGB.out
  have HXK : Hid (BX ((w1.alloc (.cells #[.int .i64 fa, .int .i64 fb, .int .i64 lo, .int .i64 hi, .bool fs, .bool fl] 99)).alloc (.cells #[.int .i64 kd, .bool sz, .int .i64 z1, .int .i64 z2, .int .i64 n] 43)) (w1.heap.size + 1) #[.int .i64 kd, .bool sz, .int .i64 z1, .int .i64 z2, .int .i64 n] 43) := BX.new _ _ hsz1.symm _ _
  have HAK : Hid (v4.ownBlock ≠ some (w1.heap.size + 1)) := OwnR.old (HW.out.below HBF.out).1.2.2.2.1 (Nat.le_of_eq hsz1)
  have HGK : Hid (w1.heap.size + 1 ≠ gb) := by unfold Hid; omega
  have HGKD : Hid (D + 4 ≤ w1.heap.size + 1) := by unfold Hid; omega
  have HBK := hide (bel_next HBF.out hq)
  replace HX := hide (HX.out.below HBK.out)
  replace HSN := hide (HSN.out.below HBK.out)
  replace HMM := hide (HMM.out.below HBK.out)
  replace HW := hide (HW.out.below HBK.out)
  replace HB := hide (HB.out.trans (HBK.out.mono HNW.out))
  have HKD : Hid (KpD w ((w1.alloc (.cells #[.int .i64 fa, .int .i64 fb, .int .i64 lo, .int .i64 hi, .bool fs, .bool fl] 99)).alloc (.cells #[.int .i64 kd, .bool sz, .int .i64 z1, .int .i64 z2, .int .i64 n] 43))) := fun g C q => q.below HBK.out
  have HNW0 := hide (Nat.le_trans HNW.out HBK.out.size)
  clear HNW
  have HNW := hide HNW0.out
  clear HNW0 HNUM HBK HBF HBL HB1 hq hsz1 hle hgw2 hgb2 hz1 d0 d0f d1 d1f d2 d2f d3 d3f d4 d4f d5 d5f d6 d6f
  generalize (w1.alloc (.cells #[.int .i64 fa, .int .i64 fb, .int .i64 lo, .int .i64 hi, .bool fs, .bool fl] 99)).alloc (.cells #[.int .i64 kd, .bool sz, .int .i64 z1, .int .i64 z2, .int .i64 n] 43) = u0 at *
  generalize w1.heap.size + 1 = gk at *
  replace HX := hide (HX.out.below (Below.refl _ u0).drew)
  replace HSN := hide (HSN.out.below (Below.refl _ u0).drew)
  replace HMM := hide (HMM.out.below (Below.refl _ u0).drew)
  replace HW := hide (HW.out.below (Below.refl _ u0).drew)
  replace HXK := hide (HXK.out.below (Below.refl _ u0).drew)
  replace HKD := hide (HKD.out.next (Below.refl _ u0).drew)
  replace HB := hide HB.out.drew
  replace HNW : Hid (N ≤ u0.drew.heap.size) := HNW
  refine wp_region_any (by kernel_rfl) ?_
  change wpAny _ _ _ _ _ _ _ (World.drew _)
  generalize u0.drew = x1 at *
  have z0 := HX.out.cell 3 _ rfl
  have k0 := HXK.out.cell 0 _ rfl
  have k1 := HXK.out.cell 1 _ rfl
  have k2 := HXK.out.cell 2 _ rfl
  have k3 := HXK.out.cell 3 _ rfl
  have k4 := HXK.out.cell 4 _ rfl
  refine takeP 0 52 ?v1 rfl rfl (by kernel_rfl) (by kernel_rfl) (by kernel_rfl) (fun _ _ _ h => h) (by kernel_rfl) ?hy1 ?_
  case hy1 => (intro W; go_simp; try rfl)
  simp only [ly]
  refine takeP 1 53 ?v2 rfl rfl (by kernel_rfl) (by kernel_rfl) (by kernel_rfl) (fun _ _ _ h => h) (by kernel_rfl) ?hy2 ?_
  case hy2 => (intro W; go_simp; try rfl)
  simp only [ly]
  refine takeP 2 54 ?v3 rfl rfl (by kernel_rfl) (by kernel_rfl) (by kernel_rfl) (fun _ _ _ h => h) (by kernel_rfl) ?hy3 ?_
  case hy3 => (intro W; go_simp; try rfl)
  simp only [ly]
  refine takeP 3 55 ?v4 rfl rfl (by kernel_rfl) (by kernel_rfl) (by kernel_rfl) (fun _ _ _ h => h) (by kernel_rfl) ?hy4 ?_
  case hy4 => (intro W; go_simp; try rfl)
  simp only [ly]
  refine takeP 4 56 ?v5 rfl rfl (by kernel_rfl) (by kernel_rfl) (by kernel_rfl) (fun _ _ _ h => h) (by kernel_rfl) ?hy5 ?_
  case hy5 => (intro W; go_simp; try rfl)
  simp only [ly]
  refine wpAny_ready (rs := [5, 6]) (by kernel_rfl) (by simp) ?_
  refine AllReady.cons rfl (fun K hK => ?_) (AllReady.cons rfl (fun K hK => ?_) AllReady.nil)
  ·go_simp
   first | (refine hK _ _ ?_; clear hK K) | skip
   try simp only [ly]
   refine wpAny_ready (rs := [6]) (by kernel_rfl) (by simp) ?_
   refine AllReady.cons rfl (fun K hK => ?_) AllReady.nil
   go_simp
   first | (refine hK _ _ ?_; clear hK K) | skip
   try simp only [ly]
   refine wpAny_ready (rs := [7]) (by kernel_rfl) (by simp) ?_
   refine AllReady.cons rfl (fun K hK => ?_) AllReady.nil
   go_simp
   have bq := bel1 x1 (.cells #[.int .i64 kd, .bool sz, .int .i64 z1, .int .i64 z2, .int .i64 n] 43)
   have HE := hide (RS.new encCl_len x1 _ rfl [((kd, sz, z1, z2, n) : Cl)] #[.int .i64 kd, .bool sz, .int .i64 z1, .int .i64 z2, .int .i64 n] rfl 43 (0, 0) 1 rfl (by decide))
   replace HX := hide (HX.out.below bq)
   replace HSN := hide (HSN.out.below bq)
   replace HMM := hide (HMM.out.below bq)
   replace HW := hide (HW.out.below bq)
   replace HXK := hide (HXK.out.below bq)
   replace HKD := hide (HKD.out.next bq)
   replace HB := hide (HB.out.trans (bq.mono HNW.out))
   have hNw := Nat.le_trans HNW.out bq.size
   clear bq z0 k0 k1 k2 k3 k4 HNW
   have HNW := hide hNw
   clear hNw
   generalize x1.alloc (.cells #[.int .i64 kd, .bool sz, .int .i64 z1, .int .i64 z2, .int .i64 n] 43) = x6 at *
   have z0 := HX.out.cell 3 _ rfl
   have k0 := HXK.out.cell 0 _ rfl
   have k1 := HXK.out.cell 1 _ rfl
   have k2 := HXK.out.cell 2 _ rfl
   have k3 := HXK.out.cell 3 _ rfl
   have k4 := HXK.out.cell 4 _ rfl
   first | (refine hK _ _ ?_; clear hK K) | skip
   try simp only [ly]
   refine wpAny_ready (rs := [8]) (by kernel_rfl) (by simp) ?_
   refine AllReady.cons rfl (fun K hK => ?_) AllReady.nil
   refine append_wh _ _ 26 rfl Tryz.underlying26 Tryz.infoCl rfl (by decide) (by decide) encCl_len encCl_one N _ r.2.2.2.1 [((kd, sz, z1, z2, n) : Cl)] rfl HW.out.1.2.2.2.1 ⟨_, 0, none⟩ 1 1 rfl (by decide) HE.out (by have h9 := HLN.out; simp only [List.length_singleton]; omega) HNW.out ?_
   intro v7 x7 ho hgr hbel hwh
   obtain ⟨p7, c7, hv7, _, _⟩ := ho.open encCl_len
   obtain ⟨n7, hn7⟩ : ∃ n7, (r.2.2.2.1 ++ [((kd, sz, z1, z2, n) : Cl)]).length = n7 := ⟨_, rfl⟩
   rw [hn7] at hv7
   subst hv7
   clear hn7
   have HB7 : Hid (Below N w0 x7) := hbel w0 HB.out
   replace HX := hide (HX.out.grown hgr (OwnR.off HW.out.1.2.2.2.1 HX.out (by decide)))
   replace HXK := hide (HXK.out.grown hgr HAK.out)
   replace HKD := hide (HKD.out.grown HW.out.1.2.2.2.1 (by decide) hgr)
   replace HSN := hide (HSN.out.grown HW.out.1.2.2.2.1 (by decide) hgr)
   replace HMM := hide (HMM.out.grown HW.out.1.2.2.2.1 hgr)
   have HNW7 := hide (Nat.le_trans HNW.out hgr.size)
   replace HW := hide (HW.out.cls ho hgr)
   clear ho hgr hbel hwh HE z0 HB HNW k0 k1 k2 k3 k4
   have z0 := HX.out.cell 3 _ rfl
   have y0 := HX.out.free 3
   change K (Act.put _ (some 60) _) _
   first | (refine hK _ _ ?_; clear hK K) | skip
   try simp only [ly]
   refine takeP 9 61 ?v6 rfl rfl (by kernel_rfl) (by kernel_rfl) (by kernel_rfl) (fun _ _ _ h => h) (by kernel_rfl) ?hy6 ?_
   case hy6 => (intro W; go_simp; try rfl)
   simp only [ly]
   refine takeP 10 62 ?v7 rfl rfl (by kernel_rfl) (by kernel_rfl) (by kernel_rfl) (fun _ _ _ h => h) (by kernel_rfl) ?hy7 ?_
   case hy7 => (intro W; go_simp; try rfl)
   simp only [ly]
   refine takeP 11 63 ?v8 rfl rfl (by kernel_rfl) (by kernel_rfl) (by kernel_rfl) (fun _ _ _ h => h) (by kernel_rfl) ?hy8 ?_
   case hy8 => (intro W; go_simp; try rfl)
   simp only [ly]
   refine wpAny_ready (rs := [12]) (by kernel_rfl) (by simp) ?_
   refine AllReady.cons rfl (fun K hK => ?_) AllReady.nil
   go_simp
   first | (refine hK _ _ ?_; clear hK K) | skip
   try simp only [ly]
   refine wpAny_done (by kernel_rfl) ?_ _
   have HX0 := hide HX.out
   replace HKD := hide (HKD.out.set HX0.out 3 (.slice p7 n7 c7))
   replace HX := hide (HX0.out.set 3 (.slice p7 n7 c7))
   replace HXK : Hid (BX (x7.setCell ⟨gb, 3, none⟩ (.slice p7 n7 c7)) gk #[.int .i64 kd, .bool sz, .int .i64 z1, .int .i64 z2, .int .i64 n] 43) := BX.other HXK.out (Ne.symm HGK.out) 3 (.slice p7 n7 c7)
   replace HSN := hide (SN.set HSN.out (.inr HGB.out) 3 (.slice p7 n7 c7))
   replace HMM := hide (HMM.out.set HGM.out 3 (.slice p7 n7 c7))
   replace HW := hide (RW.set HW.out HX0.out ty_bld 3 (.slice p7 n7 c7))
   have HB : Hid (Below N w0 (x7.setCell ⟨gb, 3, none⟩ (.slice p7 n7 c7))) := HB7.out.setCell (p := ⟨gb, 3, none⟩) HGN.out (.slice p7 n7 c7)
   have HNW : Hid (N ≤ (x7.setCell ⟨gb, 3, none⟩ (.slice p7 n7 c7)).heap.size) := by unfold Hid; simpa [World.setCell] using HNW7.out
   clear z0 y0 HB7 HNW7 HX0
   go_upto_region 8 with fail
   generalize x7.setCell ⟨gb, 3, none⟩ (.slice p7 n7 c7) = u at *
   have HBD : Hid (BD N u gb D M h k ((t1, t2, t3, cl, op), S, G, f) fn v1 v2 v3 (.slice p7 n7 c7) v5 (r.1, r.2.1, r.2.2.1, r.2.2.2.1 ++ [((kd, sz, z1, z2, n) : Cl)], r.2.2.2.2)) := ⟨HX.out, HSN.out, HMM.out, HW.out, HGB.out, HGMD.out, HGMN.out, HNW.out⟩
   have HXU : Hid (SN u.drew D h k ((t1, t2, t3, cl, op), S, G, f)) := HSN.out.below (Below.refl u.heap.size u).drew
   have m5 : u.cell? ⟨gb, 5, none⟩ = some (.pointer (some ⟨D + 3, 0, none⟩)) := HX.out.cell 5 _ rfl
   have k0 := HXK.out.cell 0 _ rfl
   have k1 := HXK.out.cell 1 _ rfl
   have k2 := HXK.out.cell 2 _ rfl
   have k3 := HXK.out.cell 3 _ rfl
   have k4 := HXK.out.cell 4 _ rfl
   rcases hb : clsS h cl G (kd, sz, z1, z2, n) with _ | _
   ·have HRB := hide hb
    clear hb
    refine wp_region_held_drew (S := fun W => GQ 4 D u W) (by kernel_rfl) ((GQ.refl 4 D u).drew) (fun hS0 => ?_)
    refine tkJ 0 64 hS0 ?_; simp only [ly]
    refine tkJ 1 65 hS0 ?_; simp only [ly]
    refine tkJ 2 66 hS0 ?_; simp only [ly]
    refine tkI 3 67 ?v12 rfl rfl hS0 ?hy12 ?_
    case hy12 => (intro W hW; have e0 := gqcell hW m5 (.inr (by first | exact HGB.out | exact HGKD.out)); have e1 := gqcell hW k0 (.inr (by first | exact HGB.out | exact HGKD.out)); have e2 := gqcell hW k1 (.inr (by first | exact HGB.out | exact HGKD.out)); have e3 := gqcell hW k2 (.inr (by first | exact HGB.out | exact HGKD.out)); have e4 := gqcell hW k3 (.inr (by first | exact HGB.out | exact HGKD.out)); have e5 := gqcell hW k4 (.inr (by first | exact HGB.out | exact HGKD.out)); clear hW; go_simp; try rfl)
    simp only [ly]
    refine tkI 4 68 ?v13 rfl rfl hS0 ?hy13 ?_
    case hy13 => (intro W hW; have e0 := gqcell hW m5 (.inr (by first | exact HGB.out | exact HGKD.out)); have e1 := gqcell hW k0 (.inr (by first | exact HGB.out | exact HGKD.out)); have e2 := gqcell hW k1 (.inr (by first | exact HGB.out | exact HGKD.out)); have e3 := gqcell hW k2 (.inr (by first | exact HGB.out | exact HGKD.out)); have e4 := gqcell hW k3 (.inr (by first | exact HGB.out | exact HGKD.out)); have e5 := gqcell hW k4 (.inr (by first | exact HGB.out | exact HGKD.out)); clear hW; go_simp; try rfl)
    simp only [ly]
    refine wpAnyH_ready (rs := [5]) (by kernel_rfl) (by simp) ?_
    refine AllReadyH.cons rfl (fun K hK => ?_) AllReadyH.nil
    go_simp
    go_at_call 48
    refine (clause16 D k h t1 t2 t3 cl op S G f kd z1 z2 n sz _ HXU.out (Nat.le_trans HK.out (by decide)) HCL.out HHM.out).mono ?_
    rintro e w1 ⟨rfl, hq, hp⟩
    rw [HRB.out]
    clear hp
    refine hK.out _ _ ?hs14 (fun hS1 => ?_)
    case hs14 => exact GQ.trans hS0 hq
    clear hK K
    try simp only [ly]
    refine tkJ 6 4 hS1 ?_; simp only [ly]
    refine wpAnyH_done (by kernel_rfl) ?_ _
    have HQ := hide hS1
    have HBB : Hid (blB h cl G (some ((kd, sz, z1, z2, n) : Cl)) = false) := HRB.out
    go_wp2
    go_ret
    exact ⟨by rw [HLP.out, HBB.out]; rfl, GQ.bel HB.out HQ.out HNW.out HGND.out, HKD.out.gq HBD.out.2.1 HQ.out, fun hh => by rw [HLP.out, HBB.out] at hh; cases hh⟩
   ·have HRB := hide hb
    clear hb
    refine wp_region_held_drew (S := fun W => GQ 4 D u W) (by kernel_rfl) ((GQ.refl 4 D u).drew) (fun hS0 => ?_)
    refine tkJ 0 64 hS0 ?_; simp only [ly]
    refine tkJ 1 65 hS0 ?_; simp only [ly]
    refine tkJ 2 66 hS0 ?_; simp only [ly]
    refine tkI 3 67 ?v19 rfl rfl hS0 ?hy19 ?_
    case hy19 => (intro W hW; have e0 := gqcell hW m5 (.inr (by first | exact HGB.out | exact HGKD.out)); have e1 := gqcell hW k0 (.inr (by first | exact HGB.out | exact HGKD.out)); have e2 := gqcell hW k1 (.inr (by first | exact HGB.out | exact HGKD.out)); have e3 := gqcell hW k2 (.inr (by first | exact HGB.out | exact HGKD.out)); have e4 := gqcell hW k3 (.inr (by first | exact HGB.out | exact HGKD.out)); have e5 := gqcell hW k4 (.inr (by first | exact HGB.out | exact HGKD.out)); clear hW; go_simp; try rfl)
    simp only [ly]
    refine tkI 4 68 ?v20 rfl rfl hS0 ?hy20 ?_
    case hy20 => (intro W hW; have e0 := gqcell hW m5 (.inr (by first | exact HGB.out | exact HGKD.out)); have e1 := gqcell hW k0 (.inr (by first | exact HGB.out | exact HGKD.out)); have e2 := gqcell hW k1 (.inr (by first | exact HGB.out | exact HGKD.out)); have e3 := gqcell hW k2 (.inr (by first | exact HGB.out | exact HGKD.out)); have e4 := gqcell hW k3 (.inr (by first | exact HGB.out | exact HGKD.out)); have e5 := gqcell hW k4 (.inr (by first | exact HGB.out | exact HGKD.out)); clear hW; go_simp; try rfl)
    simp only [ly]
    refine wpAnyH_ready (rs := [5]) (by kernel_rfl) (by simp) ?_
    refine AllReadyH.cons rfl (fun K hK => ?_) AllReadyH.nil
    go_simp
    go_at_call 48
    refine (clause16 D k h t1 t2 t3 cl op S G f kd z1 z2 n sz _ HXU.out (Nat.le_trans HK.out (by decide)) HCL.out HHM.out).mono ?_
    rintro e w1 ⟨rfl, hq, hp⟩
    rw [HRB.out]
    have HP := hide (hp HRB.out)
    clear hp
    refine hK.out _ _ ?hs21 (fun hS1 => ?_)
    case hs21 => exact GQ.trans hS0 hq
    clear hK K
    try simp only [ly]
    refine tkJ 6 4 hS1 ?_; simp only [ly]
    refine wpAnyH_done (by kernel_rfl) ?_ _
    have HQ := hide hS1
    have HBB : Hid (blB h cl G (some ((kd, sz, z1, z2, n) : Cl)) = true) := HRB.out
    go_wp2
    go_ret
    have hbd := BD.gq HBD.out HQ.out (SN.mono HP.out (show k + 1 ≤ k + 20 by omega))
    exact ⟨by rw [HLP.out, HBB.out]; rfl, GQ.bel HB.out HQ.out HNW.out HGND.out, HKD.out.gq HBD.out.2.1 HQ.out, fun _ => ⟨((kd, sz, z1, z2, n) : Cl), HLP.out, v1, v2, v3, (.slice p7 n7 c7), v5, hbd⟩⟩
  ·go_simp
   first | (refine hK _ _ ?_; clear hK K) | skip
   try simp only [ly]
   refine wpAny_ready (rs := [5, 7]) (by kernel_rfl) (by simp) ?_
   refine AllReady.cons rfl (fun K hK => ?_) (AllReady.cons rfl (fun K hK => ?_) AllReady.nil)
   ·go_simp
    first | (refine hK _ _ ?_; clear hK K) | skip
    try simp only [ly]
    refine wpAny_ready (rs := [7]) (by kernel_rfl) (by simp) ?_
    refine AllReady.cons rfl (fun K hK => ?_) AllReady.nil
    go_simp
    have bq := bel1 x1 (.cells #[.int .i64 kd, .bool sz, .int .i64 z1, .int .i64 z2, .int .i64 n] 43)
    have HE := hide (RS.new encCl_len x1 _ rfl [((kd, sz, z1, z2, n) : Cl)] #[.int .i64 kd, .bool sz, .int .i64 z1, .int .i64 z2, .int .i64 n] rfl 43 (0, 0) 1 rfl (by decide))
    replace HX := hide (HX.out.below bq)
    replace HSN := hide (HSN.out.below bq)
    replace HMM := hide (HMM.out.below bq)
    replace HW := hide (HW.out.below bq)
    replace HXK := hide (HXK.out.below bq)
    replace HKD := hide (HKD.out.next bq)
    replace HB := hide (HB.out.trans (bq.mono HNW.out))
    have hNw := Nat.le_trans HNW.out bq.size
    clear bq z0 k0 k1 k2 k3 k4 HNW
    have HNW := hide hNw
    clear hNw
    generalize x1.alloc (.cells #[.int .i64 kd, .bool sz, .int .i64 z1, .int .i64 z2, .int .i64 n] 43) = x6 at *
    have z0 := HX.out.cell 3 _ rfl
    have k0 := HXK.out.cell 0 _ rfl
    have k1 := HXK.out.cell 1 _ rfl
    have k2 := HXK.out.cell 2 _ rfl
    have k3 := HXK.out.cell 3 _ rfl
    have k4 := HXK.out.cell 4 _ rfl
    first | (refine hK _ _ ?_; clear hK K) | skip
    try simp only [ly]
    refine wpAny_ready (rs := [8]) (by kernel_rfl) (by simp) ?_
    refine AllReady.cons rfl (fun K hK => ?_) AllReady.nil
    refine append_wh _ _ 26 rfl Tryz.underlying26 Tryz.infoCl rfl (by decide) (by decide) encCl_len encCl_one N _ r.2.2.2.1 [((kd, sz, z1, z2, n) : Cl)] rfl HW.out.1.2.2.2.1 ⟨_, 0, none⟩ 1 1 rfl (by decide) HE.out (by have h9 := HLN.out; simp only [List.length_singleton]; omega) HNW.out ?_
    intro v7 x7 ho hgr hbel hwh
    obtain ⟨p7, c7, hv7, _, _⟩ := ho.open encCl_len
    obtain ⟨n7, hn7⟩ : ∃ n7, (r.2.2.2.1 ++ [((kd, sz, z1, z2, n) : Cl)]).length = n7 := ⟨_, rfl⟩
    rw [hn7] at hv7
    subst hv7
    clear hn7
    have HB7 : Hid (Below N w0 x7) := hbel w0 HB.out
    replace HX := hide (HX.out.grown hgr (OwnR.off HW.out.1.2.2.2.1 HX.out (by decide)))
    replace HXK := hide (HXK.out.grown hgr HAK.out)
    replace HKD := hide (HKD.out.grown HW.out.1.2.2.2.1 (by decide) hgr)
    replace HSN := hide (HSN.out.grown HW.out.1.2.2.2.1 (by decide) hgr)
    replace HMM := hide (HMM.out.grown HW.out.1.2.2.2.1 hgr)
    have HNW7 := hide (Nat.le_trans HNW.out hgr.size)
    replace HW := hide (HW.out.cls ho hgr)
    clear ho hgr hbel hwh HE z0 HB HNW k0 k1 k2 k3 k4
    have z0 := HX.out.cell 3 _ rfl
    have y0 := HX.out.free 3
    change K (Act.put _ (some 60) _) _
    first | (refine hK _ _ ?_; clear hK K) | skip
    try simp only [ly]
    refine takeP 9 61 ?v23 rfl rfl (by kernel_rfl) (by kernel_rfl) (by kernel_rfl) (fun _ _ _ h => h) (by kernel_rfl) ?hy23 ?_
    case hy23 => (intro W; go_simp; try rfl)
    simp only [ly]
    refine takeP 10 62 ?v24 rfl rfl (by kernel_rfl) (by kernel_rfl) (by kernel_rfl) (fun _ _ _ h => h) (by kernel_rfl) ?hy24 ?_
    case hy24 => (intro W; go_simp; try rfl)
    simp only [ly]
    refine takeP 11 63 ?v25 rfl rfl (by kernel_rfl) (by kernel_rfl) (by kernel_rfl) (fun _ _ _ h => h) (by kernel_rfl) ?hy25 ?_
    case hy25 => (intro W; go_simp; try rfl)
    simp only [ly]
    refine wpAny_ready (rs := [12]) (by kernel_rfl) (by simp) ?_
    refine AllReady.cons rfl (fun K hK => ?_) AllReady.nil
    go_simp
    first | (refine hK _ _ ?_; clear hK K) | skip
    try simp only [ly]
    refine wpAny_done (by kernel_rfl) ?_ _
    have HX0 := hide HX.out
    replace HKD := hide (HKD.out.set HX0.out 3 (.slice p7 n7 c7))
    replace HX := hide (HX0.out.set 3 (.slice p7 n7 c7))
    replace HXK : Hid (BX (x7.setCell ⟨gb, 3, none⟩ (.slice p7 n7 c7)) gk #[.int .i64 kd, .bool sz, .int .i64 z1, .int .i64 z2, .int .i64 n] 43) := BX.other HXK.out (Ne.symm HGK.out) 3 (.slice p7 n7 c7)
    replace HSN := hide (SN.set HSN.out (.inr HGB.out) 3 (.slice p7 n7 c7))
    replace HMM := hide (HMM.out.set HGM.out 3 (.slice p7 n7 c7))
    replace HW := hide (RW.set HW.out HX0.out ty_bld 3 (.slice p7 n7 c7))
    have HB : Hid (Below N w0 (x7.setCell ⟨gb, 3, none⟩ (.slice p7 n7 c7))) := HB7.out.setCell (p := ⟨gb, 3, none⟩) HGN.out (.slice p7 n7 c7)
    have HNW : Hid (N ≤ (x7.setCell ⟨gb, 3, none⟩ (.slice p7 n7 c7)).heap.size) := by unfold Hid; simpa [World.setCell] using HNW7.out
    clear z0 y0 HB7 HNW7 HX0
    go_upto_region 8 with fail
    generalize x7.setCell ⟨gb, 3, none⟩ (.slice p7 n7 c7) = u at *
    have HBD : Hid (BD N u gb D M h k ((t1, t2, t3, cl, op), S, G, f) fn v1 v2 v3 (.slice p7 n7 c7) v5 (r.1, r.2.1, r.2.2.1, r.2.2.2.1 ++ [((kd, sz, z1, z2, n) : Cl)], r.2.2.2.2)) := ⟨HX.out, HSN.out, HMM.out, HW.out, HGB.out, HGMD.out, HGMN.out, HNW.out⟩
    have HXU : Hid (SN u.drew D h k ((t1, t2, t3, cl, op), S, G, f)) := HSN.out.below (Below.refl u.heap.size u).drew
    have m5 : u.cell? ⟨gb, 5, none⟩ = some (.pointer (some ⟨D + 3, 0, none⟩)) := HX.out.cell 5 _ rfl
    have k0 := HXK.out.cell 0 _ rfl
    have k1 := HXK.out.cell 1 _ rfl
    have k2 := HXK.out.cell 2 _ rfl
    have k3 := HXK.out.cell 3 _ rfl
    have k4 := HXK.out.cell 4 _ rfl
    rcases hb : clsS h cl G (kd, sz, z1, z2, n) with _ | _
    ·have HRB := hide hb
     clear hb
     refine wp_region_held_drew (S := fun W => GQ 4 D u W) (by kernel_rfl) ((GQ.refl 4 D u).drew) (fun hS0 => ?_)
     refine tkJ 0 64 hS0 ?_; simp only [ly]
     refine tkJ 1 65 hS0 ?_; simp only [ly]
     refine tkJ 2 66 hS0 ?_; simp only [ly]
     refine tkI 3 67 ?v29 rfl rfl hS0 ?hy29 ?_
     case hy29 => (intro W hW; have e0 := gqcell hW m5 (.inr (by first | exact HGB.out | exact HGKD.out)); have e1 := gqcell hW k0 (.inr (by first | exact HGB.out | exact HGKD.out)); have e2 := gqcell hW k1 (.inr (by first | exact HGB.out | exact HGKD.out)); have e3 := gqcell hW k2 (.inr (by first | exact HGB.out | exact HGKD.out)); have e4 := gqcell hW k3 (.inr (by first | exact HGB.out | exact HGKD.out)); have e5 := gqcell hW k4 (.inr (by first | exact HGB.out | exact HGKD.out)); clear hW; go_simp; try rfl)
     simp only [ly]
     refine tkI 4 68 ?v30 rfl rfl hS0 ?hy30 ?_
     case hy30 => (intro W hW; have e0 := gqcell hW m5 (.inr (by first | exact HGB.out | exact HGKD.out)); have e1 := gqcell hW k0 (.inr (by first | exact HGB.out | exact HGKD.out)); have e2 := gqcell hW k1 (.inr (by first | exact HGB.out | exact HGKD.out)); have e3 := gqcell hW k2 (.inr (by first | exact HGB.out | exact HGKD.out)); have e4 := gqcell hW k3 (.inr (by first | exact HGB.out | exact HGKD.out)); have e5 := gqcell hW k4 (.inr (by first | exact HGB.out | exact HGKD.out)); clear hW; go_simp; try rfl)
     simp only [ly]
     refine wpAnyH_ready (rs := [5]) (by kernel_rfl) (by simp) ?_
     refine AllReadyH.cons rfl (fun K hK => ?_) AllReadyH.nil
     go_simp
     go_at_call 48
     refine (clause16 D k h t1 t2 t3 cl op S G f kd z1 z2 n sz _ HXU.out (Nat.le_trans HK.out (by decide)) HCL.out HHM.out).mono ?_
     rintro e w1 ⟨rfl, hq, hp⟩
     rw [HRB.out]
     clear hp
     refine hK.out _ _ ?hs31 (fun hS1 => ?_)
     case hs31 => exact GQ.trans hS0 hq
     clear hK K
     try simp only [ly]
     refine tkJ 6 4 hS1 ?_; simp only [ly]
     refine wpAnyH_done (by kernel_rfl) ?_ _
     have HQ := hide hS1
     have HBB : Hid (blB h cl G (some ((kd, sz, z1, z2, n) : Cl)) = false) := HRB.out
     go_wp2
     go_ret
     exact ⟨by rw [HLP.out, HBB.out]; rfl, GQ.bel HB.out HQ.out HNW.out HGND.out, HKD.out.gq HBD.out.2.1 HQ.out, fun hh => by rw [HLP.out, HBB.out] at hh; cases hh⟩
    ·have HRB := hide hb
     clear hb
     refine wp_region_held_drew (S := fun W => GQ 4 D u W) (by kernel_rfl) ((GQ.refl 4 D u).drew) (fun hS0 => ?_)
     refine tkJ 0 64 hS0 ?_; simp only [ly]
     refine tkJ 1 65 hS0 ?_; simp only [ly]
     refine tkJ 2 66 hS0 ?_; simp only [ly]
     refine tkI 3 67 ?v36 rfl rfl hS0 ?hy36 ?_
     case hy36 => (intro W hW; have e0 := gqcell hW m5 (.inr (by first | exact HGB.out | exact HGKD.out)); have e1 := gqcell hW k0 (.inr (by first | exact HGB.out | exact HGKD.out)); have e2 := gqcell hW k1 (.inr (by first | exact HGB.out | exact HGKD.out)); have e3 := gqcell hW k2 (.inr (by first | exact HGB.out | exact HGKD.out)); have e4 := gqcell hW k3 (.inr (by first | exact HGB.out | exact HGKD.out)); have e5 := gqcell hW k4 (.inr (by first | exact HGB.out | exact HGKD.out)); clear hW; go_simp; try rfl)
     simp only [ly]
     refine tkI 4 68 ?v37 rfl rfl hS0 ?hy37 ?_
     case hy37 => (intro W hW; have e0 := gqcell hW m5 (.inr (by first | exact HGB.out | exact HGKD.out)); have e1 := gqcell hW k0 (.inr (by first | exact HGB.out | exact HGKD.out)); have e2 := gqcell hW k1 (.inr (by first | exact HGB.out | exact HGKD.out)); have e3 := gqcell hW k2 (.inr (by first | exact HGB.out | exact HGKD.out)); have e4 := gqcell hW k3 (.inr (by first | exact HGB.out | exact HGKD.out)); have e5 := gqcell hW k4 (.inr (by first | exact HGB.out | exact HGKD.out)); clear hW; go_simp; try rfl)
     simp only [ly]
     refine wpAnyH_ready (rs := [5]) (by kernel_rfl) (by simp) ?_
     refine AllReadyH.cons rfl (fun K hK => ?_) AllReadyH.nil
     go_simp
     go_at_call 48
     refine (clause16 D k h t1 t2 t3 cl op S G f kd z1 z2 n sz _ HXU.out (Nat.le_trans HK.out (by decide)) HCL.out HHM.out).mono ?_
     rintro e w1 ⟨rfl, hq, hp⟩
     rw [HRB.out]
     have HP := hide (hp HRB.out)
     clear hp
     refine hK.out _ _ ?hs38 (fun hS1 => ?_)
     case hs38 => exact GQ.trans hS0 hq
     clear hK K
     try simp only [ly]
     refine tkJ 6 4 hS1 ?_; simp only [ly]
     refine wpAnyH_done (by kernel_rfl) ?_ _
     have HQ := hide hS1
     have HBB : Hid (blB h cl G (some ((kd, sz, z1, z2, n) : Cl)) = true) := HRB.out
     go_wp2
     go_ret
     have hbd := BD.gq HBD.out HQ.out (SN.mono HP.out (show k + 1 ≤ k + 20 by omega))
     exact ⟨by rw [HLP.out, HBB.out]; rfl, GQ.bel HB.out HQ.out HNW.out HGND.out, HKD.out.gq HBD.out.2.1 HQ.out, fun _ => ⟨((kd, sz, z1, z2, n) : Cl), HLP.out, v1, v2, v3, (.slice p7 n7 c7), v5, hbd⟩⟩
   ·go_simp
    have bq := bel1 x1 (.cells #[.int .i64 kd, .bool sz, .int .i64 z1, .int .i64 z2, .int .i64 n] 43)
    have HE := hide (RS.new encCl_len x1 _ rfl [((kd, sz, z1, z2, n) : Cl)] #[.int .i64 kd, .bool sz, .int .i64 z1, .int .i64 z2, .int .i64 n] rfl 43 (0, 0) 1 rfl (by decide))
    replace HX := hide (HX.out.below bq)
    replace HSN := hide (HSN.out.below bq)
    replace HMM := hide (HMM.out.below bq)
    replace HW := hide (HW.out.below bq)
    replace HXK := hide (HXK.out.below bq)
    replace HKD := hide (HKD.out.next bq)
    replace HB := hide (HB.out.trans (bq.mono HNW.out))
    have hNw := Nat.le_trans HNW.out bq.size
    clear bq z0 k0 k1 k2 k3 k4 HNW
    have HNW := hide hNw
    clear hNw
    generalize x1.alloc (.cells #[.int .i64 kd, .bool sz, .int .i64 z1, .int .i64 z2, .int .i64 n] 43) = x6 at *
    have z0 := HX.out.cell 3 _ rfl
    have k0 := HXK.out.cell 0 _ rfl
    have k1 := HXK.out.cell 1 _ rfl
    have k2 := HXK.out.cell 2 _ rfl
    have k3 := HXK.out.cell 3 _ rfl
    have k4 := HXK.out.cell 4 _ rfl
    first | (refine hK _ _ ?_; clear hK K) | skip
    try simp only [ly]
    refine wpAny_ready (rs := [5]) (by kernel_rfl) (by simp) ?_
    refine AllReady.cons rfl (fun K hK => ?_) AllReady.nil
    go_simp
    first | (refine hK _ _ ?_; clear hK K) | skip
    try simp only [ly]
    refine wpAny_ready (rs := [8]) (by kernel_rfl) (by simp) ?_
    refine AllReady.cons rfl (fun K hK => ?_) AllReady.nil
    refine append_wh _ _ 26 rfl Tryz.underlying26 Tryz.infoCl rfl (by decide) (by decide) encCl_len encCl_one N _ r.2.2.2.1 [((kd, sz, z1, z2, n) : Cl)] rfl HW.out.1.2.2.2.1 ⟨_, 0, none⟩ 1 1 rfl (by decide) HE.out (by have h9 := HLN.out; simp only [List.length_singleton]; omega) HNW.out ?_
    intro v7 x7 ho hgr hbel hwh
    obtain ⟨p7, c7, hv7, _, _⟩ := ho.open encCl_len
    obtain ⟨n7, hn7⟩ : ∃ n7, (r.2.2.2.1 ++ [((kd, sz, z1, z2, n) : Cl)]).length = n7 := ⟨_, rfl⟩
    rw [hn7] at hv7
    subst hv7
    clear hn7
    have HB7 : Hid (Below N w0 x7) := hbel w0 HB.out
    replace HX := hide (HX.out.grown hgr (OwnR.off HW.out.1.2.2.2.1 HX.out (by decide)))
    replace HXK := hide (HXK.out.grown hgr HAK.out)
    replace HKD := hide (HKD.out.grown HW.out.1.2.2.2.1 (by decide) hgr)
    replace HSN := hide (HSN.out.grown HW.out.1.2.2.2.1 (by decide) hgr)
    replace HMM := hide (HMM.out.grown HW.out.1.2.2.2.1 hgr)
    have HNW7 := hide (Nat.le_trans HNW.out hgr.size)
    replace HW := hide (HW.out.cls ho hgr)
    clear ho hgr hbel hwh HE z0 HB HNW k0 k1 k2 k3 k4
    have z0 := HX.out.cell 3 _ rfl
    have y0 := HX.out.free 3
    change K (Act.put _ (some 60) _) _
    first | (refine hK _ _ ?_; clear hK K) | skip
    try simp only [ly]
    refine takeP 9 61 ?v40 rfl rfl (by kernel_rfl) (by kernel_rfl) (by kernel_rfl) (fun _ _ _ h => h) (by kernel_rfl) ?hy40 ?_
    case hy40 => (intro W; go_simp; try rfl)
    simp only [ly]
    refine takeP 10 62 ?v41 rfl rfl (by kernel_rfl) (by kernel_rfl) (by kernel_rfl) (fun _ _ _ h => h) (by kernel_rfl) ?hy41 ?_
    case hy41 => (intro W; go_simp; try rfl)
    simp only [ly]
    refine takeP 11 63 ?v42 rfl rfl (by kernel_rfl) (by kernel_rfl) (by kernel_rfl) (fun _ _ _ h => h) (by kernel_rfl) ?hy42 ?_
    case hy42 => (intro W; go_simp; try rfl)
    simp only [ly]
    refine wpAny_ready (rs := [12]) (by kernel_rfl) (by simp) ?_
    refine AllReady.cons rfl (fun K hK => ?_) AllReady.nil
    go_simp
    first | (refine hK _ _ ?_; clear hK K) | skip
    try simp only [ly]
    refine wpAny_done (by kernel_rfl) ?_ _
    have HX0 := hide HX.out
    replace HKD := hide (HKD.out.set HX0.out 3 (.slice p7 n7 c7))
    replace HX := hide (HX0.out.set 3 (.slice p7 n7 c7))
    replace HXK : Hid (BX (x7.setCell ⟨gb, 3, none⟩ (.slice p7 n7 c7)) gk #[.int .i64 kd, .bool sz, .int .i64 z1, .int .i64 z2, .int .i64 n] 43) := BX.other HXK.out (Ne.symm HGK.out) 3 (.slice p7 n7 c7)
    replace HSN := hide (SN.set HSN.out (.inr HGB.out) 3 (.slice p7 n7 c7))
    replace HMM := hide (HMM.out.set HGM.out 3 (.slice p7 n7 c7))
    replace HW := hide (RW.set HW.out HX0.out ty_bld 3 (.slice p7 n7 c7))
    have HB : Hid (Below N w0 (x7.setCell ⟨gb, 3, none⟩ (.slice p7 n7 c7))) := HB7.out.setCell (p := ⟨gb, 3, none⟩) HGN.out (.slice p7 n7 c7)
    have HNW : Hid (N ≤ (x7.setCell ⟨gb, 3, none⟩ (.slice p7 n7 c7)).heap.size) := by unfold Hid; simpa [World.setCell] using HNW7.out
    clear z0 y0 HB7 HNW7 HX0
    go_upto_region 8 with fail
    generalize x7.setCell ⟨gb, 3, none⟩ (.slice p7 n7 c7) = u at *
    have HBD : Hid (BD N u gb D M h k ((t1, t2, t3, cl, op), S, G, f) fn v1 v2 v3 (.slice p7 n7 c7) v5 (r.1, r.2.1, r.2.2.1, r.2.2.2.1 ++ [((kd, sz, z1, z2, n) : Cl)], r.2.2.2.2)) := ⟨HX.out, HSN.out, HMM.out, HW.out, HGB.out, HGMD.out, HGMN.out, HNW.out⟩
    have HXU : Hid (SN u.drew D h k ((t1, t2, t3, cl, op), S, G, f)) := HSN.out.below (Below.refl u.heap.size u).drew
    have m5 : u.cell? ⟨gb, 5, none⟩ = some (.pointer (some ⟨D + 3, 0, none⟩)) := HX.out.cell 5 _ rfl
    have k0 := HXK.out.cell 0 _ rfl
    have k1 := HXK.out.cell 1 _ rfl
    have k2 := HXK.out.cell 2 _ rfl
    have k3 := HXK.out.cell 3 _ rfl
    have k4 := HXK.out.cell 4 _ rfl
    rcases hb : clsS h cl G (kd, sz, z1, z2, n) with _ | _
    ·have HRB := hide hb
     clear hb
     refine wp_region_held_drew (S := fun W => GQ 4 D u W) (by kernel_rfl) ((GQ.refl 4 D u).drew) (fun hS0 => ?_)
     refine tkJ 0 64 hS0 ?_; simp only [ly]
     refine tkJ 1 65 hS0 ?_; simp only [ly]
     refine tkJ 2 66 hS0 ?_; simp only [ly]
     refine tkI 3 67 ?v46 rfl rfl hS0 ?hy46 ?_
     case hy46 => (intro W hW; have e0 := gqcell hW m5 (.inr (by first | exact HGB.out | exact HGKD.out)); have e1 := gqcell hW k0 (.inr (by first | exact HGB.out | exact HGKD.out)); have e2 := gqcell hW k1 (.inr (by first | exact HGB.out | exact HGKD.out)); have e3 := gqcell hW k2 (.inr (by first | exact HGB.out | exact HGKD.out)); have e4 := gqcell hW k3 (.inr (by first | exact HGB.out | exact HGKD.out)); have e5 := gqcell hW k4 (.inr (by first | exact HGB.out | exact HGKD.out)); clear hW; go_simp; try rfl)
     simp only [ly]
     refine tkI 4 68 ?v47 rfl rfl hS0 ?hy47 ?_
     case hy47 => (intro W hW; have e0 := gqcell hW m5 (.inr (by first | exact HGB.out | exact HGKD.out)); have e1 := gqcell hW k0 (.inr (by first | exact HGB.out | exact HGKD.out)); have e2 := gqcell hW k1 (.inr (by first | exact HGB.out | exact HGKD.out)); have e3 := gqcell hW k2 (.inr (by first | exact HGB.out | exact HGKD.out)); have e4 := gqcell hW k3 (.inr (by first | exact HGB.out | exact HGKD.out)); have e5 := gqcell hW k4 (.inr (by first | exact HGB.out | exact HGKD.out)); clear hW; go_simp; try rfl)
     simp only [ly]
     refine wpAnyH_ready (rs := [5]) (by kernel_rfl) (by simp) ?_
     refine AllReadyH.cons rfl (fun K hK => ?_) AllReadyH.nil
     go_simp
     go_at_call 48
     refine (clause16 D k h t1 t2 t3 cl op S G f kd z1 z2 n sz _ HXU.out (Nat.le_trans HK.out (by decide)) HCL.out HHM.out).mono ?_
     rintro e w1 ⟨rfl, hq, hp⟩
     rw [HRB.out]
     clear hp
     refine hK.out _ _ ?hs48 (fun hS1 => ?_)
     case hs48 => exact GQ.trans hS0 hq
     clear hK K
     try simp only [ly]
     refine tkJ 6 4 hS1 ?_; simp only [ly]
     refine wpAnyH_done (by kernel_rfl) ?_ _
     have HQ := hide hS1
     have HBB : Hid (blB h cl G (some ((kd, sz, z1, z2, n) : Cl)) = false) := HRB.out
     go_wp2
     go_ret
     exact ⟨by rw [HLP.out, HBB.out]; rfl, GQ.bel HB.out HQ.out HNW.out HGND.out, HKD.out.gq HBD.out.2.1 HQ.out, fun hh => by rw [HLP.out, HBB.out] at hh; cases hh⟩
    ·have HRB := hide hb
     clear hb
     refine wp_region_held_drew (S := fun W => GQ 4 D u W) (by kernel_rfl) ((GQ.refl 4 D u).drew) (fun hS0 => ?_)
     refine tkJ 0 64 hS0 ?_; simp only [ly]
     refine tkJ 1 65 hS0 ?_; simp only [ly]
     refine tkJ 2 66 hS0 ?_; simp only [ly]
     refine tkI 3 67 ?v53 rfl rfl hS0 ?hy53 ?_
     case hy53 => (intro W hW; have e0 := gqcell hW m5 (.inr (by first | exact HGB.out | exact HGKD.out)); have e1 := gqcell hW k0 (.inr (by first | exact HGB.out | exact HGKD.out)); have e2 := gqcell hW k1 (.inr (by first | exact HGB.out | exact HGKD.out)); have e3 := gqcell hW k2 (.inr (by first | exact HGB.out | exact HGKD.out)); have e4 := gqcell hW k3 (.inr (by first | exact HGB.out | exact HGKD.out)); have e5 := gqcell hW k4 (.inr (by first | exact HGB.out | exact HGKD.out)); clear hW; go_simp; try rfl)
     simp only [ly]
     refine tkI 4 68 ?v54 rfl rfl hS0 ?hy54 ?_
     case hy54 => (intro W hW; have e0 := gqcell hW m5 (.inr (by first | exact HGB.out | exact HGKD.out)); have e1 := gqcell hW k0 (.inr (by first | exact HGB.out | exact HGKD.out)); have e2 := gqcell hW k1 (.inr (by first | exact HGB.out | exact HGKD.out)); have e3 := gqcell hW k2 (.inr (by first | exact HGB.out | exact HGKD.out)); have e4 := gqcell hW k3 (.inr (by first | exact HGB.out | exact HGKD.out)); have e5 := gqcell hW k4 (.inr (by first | exact HGB.out | exact HGKD.out)); clear hW; go_simp; try rfl)
     simp only [ly]
     refine wpAnyH_ready (rs := [5]) (by kernel_rfl) (by simp) ?_
     refine AllReadyH.cons rfl (fun K hK => ?_) AllReadyH.nil
     go_simp
     go_at_call 48
     refine (clause16 D k h t1 t2 t3 cl op S G f kd z1 z2 n sz _ HXU.out (Nat.le_trans HK.out (by decide)) HCL.out HHM.out).mono ?_
     rintro e w1 ⟨rfl, hq, hp⟩
     rw [HRB.out]
     have HP := hide (hp HRB.out)
     clear hp
     refine hK.out _ _ ?hs55 (fun hS1 => ?_)
     case hs55 => exact GQ.trans hS0 hq
     clear hK K
     try simp only [ly]
     refine tkJ 6 4 hS1 ?_; simp only [ly]
     refine wpAnyH_done (by kernel_rfl) ?_ _
     have HQ := hide hS1
     have HBB : Hid (blB h cl G (some ((kd, sz, z1, z2, n) : Cl)) = true) := HRB.out
     go_wp2
     go_ret
     have hbd := BD.gq HBD.out HQ.out (SN.mono HP.out (show k + 1 ≤ k + 20 by omega))
     exact ⟨by rw [HLP.out, HBB.out]; rfl, GQ.bel HB.out HQ.out HNW.out HGND.out, HKD.out.gq HBD.out.2.1 HQ.out, fun _ => ⟨((kd, sz, z1, z2, n) : Cl), HLP.out, v1, v2, v3, (.slice p7 n7 c7), v5, hbd⟩⟩
 ·have HLP : Hid (lnP fn kd true nm ot n = some (kd, true, z1, z2, n)) := by unfold Hid lnP; rw [hfa, hfb, hfl, HN1.out, HN2.out]; simp
  clear hfa hfb hfl
  go_enter Tryz.func39, Tryz.ntmps39
  go_upto_region 1 with fail
  generalize w.alloc (.cells #[.int .i64 kd, .bool true, .string nm, .string ot, .int .i64 n, .slice p m c, .int .i64 ln] 38) = u at *
  have d0 := HXD.out.cell 0 _ rfl
  have d1 := HXD.out.cell 1 _ rfl
  have d2 := HXD.out.cell 2 _ rfl
  have d3 := HXD.out.cell 3 _ rfl
  have d4 := HXD.out.cell 4 _ rfl
  have d5 := HXD.out.cell 5 _ rfl
  have d6 := HXD.out.cell 6 _ rfl
  clear HXD
  go_upto_region 6 with (first | (go_at_call 56; refine (form16 kd _).mono ?_; rintro e w1 ⟨rfl, hb⟩; rw [HFR.out]; replace HBL := hide (bel_next HBL.out hb); replace d0 := bcell hb d0; replace d1 := bcell hb d1; replace d2 := bcell hb d2; replace d3 := bcell hb d3; replace d4 := bcell hb d4; replace d5 := bcell hb d5; replace d6 := bcell hb d6; have HB1 := hide hb; have hz1 := hb.size; have HBF := hide (bel_next HBL.out (bel1 w1 (.cells #[.int .i64 fa, .int .i64 fb, .int .i64 lo, .int .i64 hi, .bool fs, .bool fl] 99))); have d0f := cell_old (.cells #[.int .i64 fa, .int .i64 fb, .int .i64 lo, .int .i64 hi, .bool fs, .bool fl] 99) d0; have d1f := cell_old (.cells #[.int .i64 fa, .int .i64 fb, .int .i64 lo, .int .i64 hi, .bool fs, .bool fl] 99) d1; have d2f := cell_old (.cells #[.int .i64 fa, .int .i64 fb, .int .i64 lo, .int .i64 hi, .bool fs, .bool fl] 99) d2; have d3f := cell_old (.cells #[.int .i64 fa, .int .i64 fb, .int .i64 lo, .int .i64 hi, .bool fs, .bool fl] 99) d3; have d4f := cell_old (.cells #[.int .i64 fa, .int .i64 fb, .int .i64 lo, .int .i64 hi, .bool fs, .bool fl] 99) d4; have d5f := cell_old (.cells #[.int .i64 fa, .int .i64 fb, .int .i64 lo, .int .i64 hi, .bool fs, .bool fl] 99) d5; have d6f := cell_old (.cells #[.int .i64 fa, .int .i64 fb, .int .i64 lo, .int .i64 hi, .bool fs, .bool fl] 99) d6; clear hb) | (go_at_call 54; refine (HNUM.out _ _ _ (by first | exact HFA.out | exact HFB.out) (by first | exact HZ1.out | exact HZ2.out) HBF.out).mono ?_; rintro e w2 ⟨rfl, hw9⟩; have hw8 := hw9.symm; subst hw8; clear hw9; first | rw [HN1.out] | rw [HN2.out]))
  go_upto_region 7 with fail
  skip
  have hq := bel1 (w1.alloc (.cells #[.int .i64 fa, .int .i64 fb, .int .i64 lo, .int .i64 hi, .bool fs, .bool fl] 99)) (.cells #[.int .i64 kd, .bool true, .int .i64 z1, .int .i64 z2, .int .i64 n] 43)
  have hsz1 : (w1.alloc (.cells #[.int .i64 fa, .int .i64 fb, .int .i64 lo, .int .i64 hi, .bool fs, .bool fl] 99)).heap.size = w1.heap.size + 1 := by simp
  have hle := HBF.out.size
  rw [hsz1] at hle
  have hgw2 := HGW.out
  have hgb2 := HGB.out
  have HXK : Hid (BX ((w1.alloc (.cells #[.int .i64 fa, .int .i64 fb, .int .i64 lo, .int .i64 hi, .bool fs, .bool fl] 99)).alloc (.cells #[.int .i64 kd, .bool true, .int .i64 z1, .int .i64 z2, .int .i64 n] 43)) (w1.heap.size + 1) #[.int .i64 kd, .bool true, .int .i64 z1, .int .i64 z2, .int .i64 n] 43) := BX.new _ _ hsz1.symm _ _
  have HAK : Hid (v4.ownBlock ≠ some (w1.heap.size + 1)) := OwnR.old (HW.out.below HBF.out).1.2.2.2.1 (Nat.le_of_eq hsz1)
  have HGK : Hid (w1.heap.size + 1 ≠ gb) := by unfold Hid; omega
  have HGKD : Hid (D + 4 ≤ w1.heap.size + 1) := by unfold Hid; omega
  have HBK := hide (bel_next HBF.out hq)
  replace HX := hide (HX.out.below HBK.out)
  replace HSN := hide (HSN.out.below HBK.out)
  replace HMM := hide (HMM.out.below HBK.out)
  replace HW := hide (HW.out.below HBK.out)
  replace HB := hide (HB.out.trans (HBK.out.mono HNW.out))
  have HKD : Hid (KpD w ((w1.alloc (.cells #[.int .i64 fa, .int .i64 fb, .int .i64 lo, .int .i64 hi, .bool fs, .bool fl] 99)).alloc (.cells #[.int .i64 kd, .bool true, .int .i64 z1, .int .i64 z2, .int .i64 n] 43))) := fun g C q => q.below HBK.out
  have HNW0 := hide (Nat.le_trans HNW.out HBK.out.size)
  clear HNW
  have HNW := hide HNW0.out
  clear HNW0 HNUM HBK HBF HBL HB1 hq hsz1 hle hgw2 hgb2 hz1 d0 d0f d1 d1f d2 d2f d3 d3f d4 d4f d5 d5f d6 d6f
  generalize (w1.alloc (.cells #[.int .i64 fa, .int .i64 fb, .int .i64 lo, .int .i64 hi, .bool fs, .bool fl] 99)).alloc (.cells #[.int .i64 kd, .bool true, .int .i64 z1, .int .i64 z2, .int .i64 n] 43) = u0 at *
  generalize w1.heap.size + 1 = gk at *
  replace HX := hide (HX.out.below (Below.refl _ u0).drew)
  replace HSN := hide (HSN.out.below (Below.refl _ u0).drew)
  replace HMM := hide (HMM.out.below (Below.refl _ u0).drew)
  replace HW := hide (HW.out.below (Below.refl _ u0).drew)
  replace HXK := hide (HXK.out.below (Below.refl _ u0).drew)
  replace HKD := hide (HKD.out.next (Below.refl _ u0).drew)
  replace HB := hide HB.out.drew
  replace HNW : Hid (N ≤ u0.drew.heap.size) := HNW
  refine wp_region_any (by kernel_rfl) ?_
  change wpAny _ _ _ _ _ _ _ (World.drew _)
  generalize u0.drew = x1 at *
  have z0 := HX.out.cell 3 _ rfl
  have k0 := HXK.out.cell 0 _ rfl
  have k1 := HXK.out.cell 1 _ rfl
  have k2 := HXK.out.cell 2 _ rfl
  have k3 := HXK.out.cell 3 _ rfl
  have k4 := HXK.out.cell 4 _ rfl
  refine takeP 0 52 ?v57 rfl rfl (by kernel_rfl) (by kernel_rfl) (by kernel_rfl) (fun _ _ _ h => h) (by kernel_rfl) ?hy57 ?_
  case hy57 => (intro W; go_simp; try rfl)
  simp only [ly]
  refine takeP 1 53 ?v58 rfl rfl (by kernel_rfl) (by kernel_rfl) (by kernel_rfl) (fun _ _ _ h => h) (by kernel_rfl) ?hy58 ?_
  case hy58 => (intro W; go_simp; try rfl)
  simp only [ly]
  refine takeP 2 54 ?v59 rfl rfl (by kernel_rfl) (by kernel_rfl) (by kernel_rfl) (fun _ _ _ h => h) (by kernel_rfl) ?hy59 ?_
  case hy59 => (intro W; go_simp; try rfl)
  simp only [ly]
  refine takeP 3 55 ?v60 rfl rfl (by kernel_rfl) (by kernel_rfl) (by kernel_rfl) (fun _ _ _ h => h) (by kernel_rfl) ?hy60 ?_
  case hy60 => (intro W; go_simp; try rfl)
  simp only [ly]
  refine takeP 4 56 ?v61 rfl rfl (by kernel_rfl) (by kernel_rfl) (by kernel_rfl) (fun _ _ _ h => h) (by kernel_rfl) ?hy61 ?_
  case hy61 => (intro W; go_simp; try rfl)
  simp only [ly]
  refine wpAny_ready (rs := [5, 6]) (by kernel_rfl) (by simp) ?_
  refine AllReady.cons rfl (fun K hK => ?_) (AllReady.cons rfl (fun K hK => ?_) AllReady.nil)
  ·go_simp
   first | (refine hK _ _ ?_; clear hK K) | skip
   try simp only [ly]
   refine wpAny_ready (rs := [6]) (by kernel_rfl) (by simp) ?_
   refine AllReady.cons rfl (fun K hK => ?_) AllReady.nil
   go_simp
   first | (refine hK _ _ ?_; clear hK K) | skip
   try simp only [ly]
   refine wpAny_ready (rs := [7]) (by kernel_rfl) (by simp) ?_
   refine AllReady.cons rfl (fun K hK => ?_) AllReady.nil
   go_simp
   have bq := bel1 x1 (.cells #[.int .i64 kd, .bool true, .int .i64 z1, .int .i64 z2, .int .i64 n] 43)
   have HE := hide (RS.new encCl_len x1 _ rfl [((kd, true, z1, z2, n) : Cl)] #[.int .i64 kd, .bool true, .int .i64 z1, .int .i64 z2, .int .i64 n] rfl 43 (0, 0) 1 rfl (by decide))
   replace HX := hide (HX.out.below bq)
   replace HSN := hide (HSN.out.below bq)
   replace HMM := hide (HMM.out.below bq)
   replace HW := hide (HW.out.below bq)
   replace HXK := hide (HXK.out.below bq)
   replace HKD := hide (HKD.out.next bq)
   replace HB := hide (HB.out.trans (bq.mono HNW.out))
   have hNw := Nat.le_trans HNW.out bq.size
   clear bq z0 k0 k1 k2 k3 k4 HNW
   have HNW := hide hNw
   clear hNw
   generalize x1.alloc (.cells #[.int .i64 kd, .bool true, .int .i64 z1, .int .i64 z2, .int .i64 n] 43) = x6 at *
   have z0 := HX.out.cell 3 _ rfl
   have k0 := HXK.out.cell 0 _ rfl
   have k1 := HXK.out.cell 1 _ rfl
   have k2 := HXK.out.cell 2 _ rfl
   have k3 := HXK.out.cell 3 _ rfl
   have k4 := HXK.out.cell 4 _ rfl
   first | (refine hK _ _ ?_; clear hK K) | skip
   try simp only [ly]
   refine wpAny_ready (rs := [8]) (by kernel_rfl) (by simp) ?_
   refine AllReady.cons rfl (fun K hK => ?_) AllReady.nil
   refine append_wh _ _ 26 rfl Tryz.underlying26 Tryz.infoCl rfl (by decide) (by decide) encCl_len encCl_one N _ r.2.2.2.1 [((kd, true, z1, z2, n) : Cl)] rfl HW.out.1.2.2.2.1 ⟨_, 0, none⟩ 1 1 rfl (by decide) HE.out (by have h9 := HLN.out; simp only [List.length_singleton]; omega) HNW.out ?_
   intro v7 x7 ho hgr hbel hwh
   obtain ⟨p7, c7, hv7, _, _⟩ := ho.open encCl_len
   obtain ⟨n7, hn7⟩ : ∃ n7, (r.2.2.2.1 ++ [((kd, true, z1, z2, n) : Cl)]).length = n7 := ⟨_, rfl⟩
   rw [hn7] at hv7
   subst hv7
   clear hn7
   have HB7 : Hid (Below N w0 x7) := hbel w0 HB.out
   replace HX := hide (HX.out.grown hgr (OwnR.off HW.out.1.2.2.2.1 HX.out (by decide)))
   replace HXK := hide (HXK.out.grown hgr HAK.out)
   replace HKD := hide (HKD.out.grown HW.out.1.2.2.2.1 (by decide) hgr)
   replace HSN := hide (HSN.out.grown HW.out.1.2.2.2.1 (by decide) hgr)
   replace HMM := hide (HMM.out.grown HW.out.1.2.2.2.1 hgr)
   have HNW7 := hide (Nat.le_trans HNW.out hgr.size)
   replace HW := hide (HW.out.cls ho hgr)
   clear ho hgr hbel hwh HE z0 HB HNW k0 k1 k2 k3 k4
   have z0 := HX.out.cell 3 _ rfl
   have y0 := HX.out.free 3
   change K (Act.put _ (some 60) _) _
   first | (refine hK _ _ ?_; clear hK K) | skip
   try simp only [ly]
   refine takeP 9 61 ?v62 rfl rfl (by kernel_rfl) (by kernel_rfl) (by kernel_rfl) (fun _ _ _ h => h) (by kernel_rfl) ?hy62 ?_
   case hy62 => (intro W; go_simp; try rfl)
   simp only [ly]
   refine takeP 10 62 ?v63 rfl rfl (by kernel_rfl) (by kernel_rfl) (by kernel_rfl) (fun _ _ _ h => h) (by kernel_rfl) ?hy63 ?_
   case hy63 => (intro W; go_simp; try rfl)
   simp only [ly]
   refine takeP 11 63 ?v64 rfl rfl (by kernel_rfl) (by kernel_rfl) (by kernel_rfl) (fun _ _ _ h => h) (by kernel_rfl) ?hy64 ?_
   case hy64 => (intro W; go_simp; try rfl)
   simp only [ly]
   refine wpAny_ready (rs := [12]) (by kernel_rfl) (by simp) ?_
   refine AllReady.cons rfl (fun K hK => ?_) AllReady.nil
   go_simp
   first | (refine hK _ _ ?_; clear hK K) | skip
   try simp only [ly]
   refine wpAny_done (by kernel_rfl) ?_ _
   have HX0 := hide HX.out
   replace HKD := hide (HKD.out.set HX0.out 3 (.slice p7 n7 c7))
   replace HX := hide (HX0.out.set 3 (.slice p7 n7 c7))
   replace HXK : Hid (BX (x7.setCell ⟨gb, 3, none⟩ (.slice p7 n7 c7)) gk #[.int .i64 kd, .bool true, .int .i64 z1, .int .i64 z2, .int .i64 n] 43) := BX.other HXK.out (Ne.symm HGK.out) 3 (.slice p7 n7 c7)
   replace HSN := hide (SN.set HSN.out (.inr HGB.out) 3 (.slice p7 n7 c7))
   replace HMM := hide (HMM.out.set HGM.out 3 (.slice p7 n7 c7))
   replace HW := hide (RW.set HW.out HX0.out ty_bld 3 (.slice p7 n7 c7))
   have HB : Hid (Below N w0 (x7.setCell ⟨gb, 3, none⟩ (.slice p7 n7 c7))) := HB7.out.setCell (p := ⟨gb, 3, none⟩) HGN.out (.slice p7 n7 c7)
   have HNW : Hid (N ≤ (x7.setCell ⟨gb, 3, none⟩ (.slice p7 n7 c7)).heap.size) := by unfold Hid; simpa [World.setCell] using HNW7.out
   clear z0 y0 HB7 HNW7 HX0
   go_upto_region 8 with fail
   generalize x7.setCell ⟨gb, 3, none⟩ (.slice p7 n7 c7) = u at *
   have HBD : Hid (BD N u gb D M h k ((t1, t2, t3, cl, op), S, G, f) fn v1 v2 v3 (.slice p7 n7 c7) v5 (r.1, r.2.1, r.2.2.1, r.2.2.2.1 ++ [((kd, true, z1, z2, n) : Cl)], r.2.2.2.2)) := ⟨HX.out, HSN.out, HMM.out, HW.out, HGB.out, HGMD.out, HGMN.out, HNW.out⟩
   have HXU : Hid (SN u.drew D h k ((t1, t2, t3, cl, op), S, G, f)) := HSN.out.below (Below.refl u.heap.size u).drew
   have m5 : u.cell? ⟨gb, 5, none⟩ = some (.pointer (some ⟨D + 3, 0, none⟩)) := HX.out.cell 5 _ rfl
   have k0 := HXK.out.cell 0 _ rfl
   have k1 := HXK.out.cell 1 _ rfl
   have k2 := HXK.out.cell 2 _ rfl
   have k3 := HXK.out.cell 3 _ rfl
   have k4 := HXK.out.cell 4 _ rfl
   rcases hb : clsS h cl G (kd, true, z1, z2, n) with _ | _
   ·have HRB := hide hb
    clear hb
    refine wp_region_held_drew (S := fun W => GQ 4 D u W) (by kernel_rfl) ((GQ.refl 4 D u).drew) (fun hS0 => ?_)
    refine tkJ 0 64 hS0 ?_; simp only [ly]
    refine tkJ 1 65 hS0 ?_; simp only [ly]
    refine tkJ 2 66 hS0 ?_; simp only [ly]
    refine tkI 3 67 ?v68 rfl rfl hS0 ?hy68 ?_
    case hy68 => (intro W hW; have e0 := gqcell hW m5 (.inr (by first | exact HGB.out | exact HGKD.out)); have e1 := gqcell hW k0 (.inr (by first | exact HGB.out | exact HGKD.out)); have e2 := gqcell hW k1 (.inr (by first | exact HGB.out | exact HGKD.out)); have e3 := gqcell hW k2 (.inr (by first | exact HGB.out | exact HGKD.out)); have e4 := gqcell hW k3 (.inr (by first | exact HGB.out | exact HGKD.out)); have e5 := gqcell hW k4 (.inr (by first | exact HGB.out | exact HGKD.out)); clear hW; go_simp; try rfl)
    simp only [ly]
    refine tkI 4 68 ?v69 rfl rfl hS0 ?hy69 ?_
    case hy69 => (intro W hW; have e0 := gqcell hW m5 (.inr (by first | exact HGB.out | exact HGKD.out)); have e1 := gqcell hW k0 (.inr (by first | exact HGB.out | exact HGKD.out)); have e2 := gqcell hW k1 (.inr (by first | exact HGB.out | exact HGKD.out)); have e3 := gqcell hW k2 (.inr (by first | exact HGB.out | exact HGKD.out)); have e4 := gqcell hW k3 (.inr (by first | exact HGB.out | exact HGKD.out)); have e5 := gqcell hW k4 (.inr (by first | exact HGB.out | exact HGKD.out)); clear hW; go_simp; try rfl)
    simp only [ly]
    refine wpAnyH_ready (rs := [5]) (by kernel_rfl) (by simp) ?_
    refine AllReadyH.cons rfl (fun K hK => ?_) AllReadyH.nil
    go_simp
    go_at_call 48
    refine (clause16 D k h t1 t2 t3 cl op S G f kd z1 z2 n true _ HXU.out (Nat.le_trans HK.out (by decide)) HCL.out HHM.out).mono ?_
    rintro e w1 ⟨rfl, hq, hp⟩
    rw [HRB.out]
    clear hp
    refine hK.out _ _ ?hs70 (fun hS1 => ?_)
    case hs70 => exact GQ.trans hS0 hq
    clear hK K
    try simp only [ly]
    refine tkJ 6 4 hS1 ?_; simp only [ly]
    refine wpAnyH_done (by kernel_rfl) ?_ _
    have HQ := hide hS1
    have HBB : Hid (blB h cl G (some ((kd, true, z1, z2, n) : Cl)) = false) := HRB.out
    go_wp2
    go_ret
    exact ⟨by rw [HLP.out, HBB.out]; rfl, GQ.bel HB.out HQ.out HNW.out HGND.out, HKD.out.gq HBD.out.2.1 HQ.out, fun hh => by rw [HLP.out, HBB.out] at hh; cases hh⟩
   ·have HRB := hide hb
    clear hb
    refine wp_region_held_drew (S := fun W => GQ 4 D u W) (by kernel_rfl) ((GQ.refl 4 D u).drew) (fun hS0 => ?_)
    refine tkJ 0 64 hS0 ?_; simp only [ly]
    refine tkJ 1 65 hS0 ?_; simp only [ly]
    refine tkJ 2 66 hS0 ?_; simp only [ly]
    refine tkI 3 67 ?v75 rfl rfl hS0 ?hy75 ?_
    case hy75 => (intro W hW; have e0 := gqcell hW m5 (.inr (by first | exact HGB.out | exact HGKD.out)); have e1 := gqcell hW k0 (.inr (by first | exact HGB.out | exact HGKD.out)); have e2 := gqcell hW k1 (.inr (by first | exact HGB.out | exact HGKD.out)); have e3 := gqcell hW k2 (.inr (by first | exact HGB.out | exact HGKD.out)); have e4 := gqcell hW k3 (.inr (by first | exact HGB.out | exact HGKD.out)); have e5 := gqcell hW k4 (.inr (by first | exact HGB.out | exact HGKD.out)); clear hW; go_simp; try rfl)
    simp only [ly]
    refine tkI 4 68 ?v76 rfl rfl hS0 ?hy76 ?_
    case hy76 => (intro W hW; have e0 := gqcell hW m5 (.inr (by first | exact HGB.out | exact HGKD.out)); have e1 := gqcell hW k0 (.inr (by first | exact HGB.out | exact HGKD.out)); have e2 := gqcell hW k1 (.inr (by first | exact HGB.out | exact HGKD.out)); have e3 := gqcell hW k2 (.inr (by first | exact HGB.out | exact HGKD.out)); have e4 := gqcell hW k3 (.inr (by first | exact HGB.out | exact HGKD.out)); have e5 := gqcell hW k4 (.inr (by first | exact HGB.out | exact HGKD.out)); clear hW; go_simp; try rfl)
    simp only [ly]
    refine wpAnyH_ready (rs := [5]) (by kernel_rfl) (by simp) ?_
    refine AllReadyH.cons rfl (fun K hK => ?_) AllReadyH.nil
    go_simp
    go_at_call 48
    refine (clause16 D k h t1 t2 t3 cl op S G f kd z1 z2 n true _ HXU.out (Nat.le_trans HK.out (by decide)) HCL.out HHM.out).mono ?_
    rintro e w1 ⟨rfl, hq, hp⟩
    rw [HRB.out]
    have HP := hide (hp HRB.out)
    clear hp
    refine hK.out _ _ ?hs77 (fun hS1 => ?_)
    case hs77 => exact GQ.trans hS0 hq
    clear hK K
    try simp only [ly]
    refine tkJ 6 4 hS1 ?_; simp only [ly]
    refine wpAnyH_done (by kernel_rfl) ?_ _
    have HQ := hide hS1
    have HBB : Hid (blB h cl G (some ((kd, true, z1, z2, n) : Cl)) = true) := HRB.out
    go_wp2
    go_ret
    have hbd := BD.gq HBD.out HQ.out (SN.mono HP.out (show k + 1 ≤ k + 20 by omega))
    exact ⟨by rw [HLP.out, HBB.out]; rfl, GQ.bel HB.out HQ.out HNW.out HGND.out, HKD.out.gq HBD.out.2.1 HQ.out, fun _ => ⟨((kd, true, z1, z2, n) : Cl), HLP.out, v1, v2, v3, (.slice p7 n7 c7), v5, hbd⟩⟩
  ·go_simp
   first | (refine hK _ _ ?_; clear hK K) | skip
   try simp only [ly]
   refine wpAny_ready (rs := [5, 7]) (by kernel_rfl) (by simp) ?_
   refine AllReady.cons rfl (fun K hK => ?_) (AllReady.cons rfl (fun K hK => ?_) AllReady.nil)
   ·go_simp
    first | (refine hK _ _ ?_; clear hK K) | skip
    try simp only [ly]
    refine wpAny_ready (rs := [7]) (by kernel_rfl) (by simp) ?_
    refine AllReady.cons rfl (fun K hK => ?_) AllReady.nil
    go_simp
    have bq := bel1 x1 (.cells #[.int .i64 kd, .bool true, .int .i64 z1, .int .i64 z2, .int .i64 n] 43)
    have HE := hide (RS.new encCl_len x1 _ rfl [((kd, true, z1, z2, n) : Cl)] #[.int .i64 kd, .bool true, .int .i64 z1, .int .i64 z2, .int .i64 n] rfl 43 (0, 0) 1 rfl (by decide))
    replace HX := hide (HX.out.below bq)
    replace HSN := hide (HSN.out.below bq)
    replace HMM := hide (HMM.out.below bq)
    replace HW := hide (HW.out.below bq)
    replace HXK := hide (HXK.out.below bq)
    replace HKD := hide (HKD.out.next bq)
    replace HB := hide (HB.out.trans (bq.mono HNW.out))
    have hNw := Nat.le_trans HNW.out bq.size
    clear bq z0 k0 k1 k2 k3 k4 HNW
    have HNW := hide hNw
    clear hNw
    generalize x1.alloc (.cells #[.int .i64 kd, .bool true, .int .i64 z1, .int .i64 z2, .int .i64 n] 43) = x6 at *
    have z0 := HX.out.cell 3 _ rfl
    have k0 := HXK.out.cell 0 _ rfl
    have k1 := HXK.out.cell 1 _ rfl
    have k2 := HXK.out.cell 2 _ rfl
    have k3 := HXK.out.cell 3 _ rfl
    have k4 := HXK.out.cell 4 _ rfl
    first | (refine hK _ _ ?_; clear hK K) | skip
    try simp only [ly]
    refine wpAny_ready (rs := [8]) (by kernel_rfl) (by simp) ?_
    refine AllReady.cons rfl (fun K hK => ?_) AllReady.nil
    refine append_wh _ _ 26 rfl Tryz.underlying26 Tryz.infoCl rfl (by decide) (by decide) encCl_len encCl_one N _ r.2.2.2.1 [((kd, true, z1, z2, n) : Cl)] rfl HW.out.1.2.2.2.1 ⟨_, 0, none⟩ 1 1 rfl (by decide) HE.out (by have h9 := HLN.out; simp only [List.length_singleton]; omega) HNW.out ?_
    intro v7 x7 ho hgr hbel hwh
    obtain ⟨p7, c7, hv7, _, _⟩ := ho.open encCl_len
    obtain ⟨n7, hn7⟩ : ∃ n7, (r.2.2.2.1 ++ [((kd, true, z1, z2, n) : Cl)]).length = n7 := ⟨_, rfl⟩
    rw [hn7] at hv7
    subst hv7
    clear hn7
    have HB7 : Hid (Below N w0 x7) := hbel w0 HB.out
    replace HX := hide (HX.out.grown hgr (OwnR.off HW.out.1.2.2.2.1 HX.out (by decide)))
    replace HXK := hide (HXK.out.grown hgr HAK.out)
    replace HKD := hide (HKD.out.grown HW.out.1.2.2.2.1 (by decide) hgr)
    replace HSN := hide (HSN.out.grown HW.out.1.2.2.2.1 (by decide) hgr)
    replace HMM := hide (HMM.out.grown HW.out.1.2.2.2.1 hgr)
    have HNW7 := hide (Nat.le_trans HNW.out hgr.size)
    replace HW := hide (HW.out.cls ho hgr)
    clear ho hgr hbel hwh HE z0 HB HNW k0 k1 k2 k3 k4
    have z0 := HX.out.cell 3 _ rfl
    have y0 := HX.out.free 3
    change K (Act.put _ (some 60) _) _
    first | (refine hK _ _ ?_; clear hK K) | skip
    try simp only [ly]
    refine takeP 9 61 ?v79 rfl rfl (by kernel_rfl) (by kernel_rfl) (by kernel_rfl) (fun _ _ _ h => h) (by kernel_rfl) ?hy79 ?_
    case hy79 => (intro W; go_simp; try rfl)
    simp only [ly]
    refine takeP 10 62 ?v80 rfl rfl (by kernel_rfl) (by kernel_rfl) (by kernel_rfl) (fun _ _ _ h => h) (by kernel_rfl) ?hy80 ?_
    case hy80 => (intro W; go_simp; try rfl)
    simp only [ly]
    refine takeP 11 63 ?v81 rfl rfl (by kernel_rfl) (by kernel_rfl) (by kernel_rfl) (fun _ _ _ h => h) (by kernel_rfl) ?hy81 ?_
    case hy81 => (intro W; go_simp; try rfl)
    simp only [ly]
    refine wpAny_ready (rs := [12]) (by kernel_rfl) (by simp) ?_
    refine AllReady.cons rfl (fun K hK => ?_) AllReady.nil
    go_simp
    first | (refine hK _ _ ?_; clear hK K) | skip
    try simp only [ly]
    refine wpAny_done (by kernel_rfl) ?_ _
    have HX0 := hide HX.out
    replace HKD := hide (HKD.out.set HX0.out 3 (.slice p7 n7 c7))
    replace HX := hide (HX0.out.set 3 (.slice p7 n7 c7))
    replace HXK : Hid (BX (x7.setCell ⟨gb, 3, none⟩ (.slice p7 n7 c7)) gk #[.int .i64 kd, .bool true, .int .i64 z1, .int .i64 z2, .int .i64 n] 43) := BX.other HXK.out (Ne.symm HGK.out) 3 (.slice p7 n7 c7)
    replace HSN := hide (SN.set HSN.out (.inr HGB.out) 3 (.slice p7 n7 c7))
    replace HMM := hide (HMM.out.set HGM.out 3 (.slice p7 n7 c7))
    replace HW := hide (RW.set HW.out HX0.out ty_bld 3 (.slice p7 n7 c7))
    have HB : Hid (Below N w0 (x7.setCell ⟨gb, 3, none⟩ (.slice p7 n7 c7))) := HB7.out.setCell (p := ⟨gb, 3, none⟩) HGN.out (.slice p7 n7 c7)
    have HNW : Hid (N ≤ (x7.setCell ⟨gb, 3, none⟩ (.slice p7 n7 c7)).heap.size) := by unfold Hid; simpa [World.setCell] using HNW7.out
    clear z0 y0 HB7 HNW7 HX0
    go_upto_region 8 with fail
    generalize x7.setCell ⟨gb, 3, none⟩ (.slice p7 n7 c7) = u at *
    have HBD : Hid (BD N u gb D M h k ((t1, t2, t3, cl, op), S, G, f) fn v1 v2 v3 (.slice p7 n7 c7) v5 (r.1, r.2.1, r.2.2.1, r.2.2.2.1 ++ [((kd, true, z1, z2, n) : Cl)], r.2.2.2.2)) := ⟨HX.out, HSN.out, HMM.out, HW.out, HGB.out, HGMD.out, HGMN.out, HNW.out⟩
    have HXU : Hid (SN u.drew D h k ((t1, t2, t3, cl, op), S, G, f)) := HSN.out.below (Below.refl u.heap.size u).drew
    have m5 : u.cell? ⟨gb, 5, none⟩ = some (.pointer (some ⟨D + 3, 0, none⟩)) := HX.out.cell 5 _ rfl
    have k0 := HXK.out.cell 0 _ rfl
    have k1 := HXK.out.cell 1 _ rfl
    have k2 := HXK.out.cell 2 _ rfl
    have k3 := HXK.out.cell 3 _ rfl
    have k4 := HXK.out.cell 4 _ rfl
    rcases hb : clsS h cl G (kd, true, z1, z2, n) with _ | _
    ·have HRB := hide hb
     clear hb
     refine wp_region_held_drew (S := fun W => GQ 4 D u W) (by kernel_rfl) ((GQ.refl 4 D u).drew) (fun hS0 => ?_)
     refine tkJ 0 64 hS0 ?_; simp only [ly]
     refine tkJ 1 65 hS0 ?_; simp only [ly]
     refine tkJ 2 66 hS0 ?_; simp only [ly]
     refine tkI 3 67 ?v85 rfl rfl hS0 ?hy85 ?_
     case hy85 => (intro W hW; have e0 := gqcell hW m5 (.inr (by first | exact HGB.out | exact HGKD.out)); have e1 := gqcell hW k0 (.inr (by first | exact HGB.out | exact HGKD.out)); have e2 := gqcell hW k1 (.inr (by first | exact HGB.out | exact HGKD.out)); have e3 := gqcell hW k2 (.inr (by first | exact HGB.out | exact HGKD.out)); have e4 := gqcell hW k3 (.inr (by first | exact HGB.out | exact HGKD.out)); have e5 := gqcell hW k4 (.inr (by first | exact HGB.out | exact HGKD.out)); clear hW; go_simp; try rfl)
     simp only [ly]
     refine tkI 4 68 ?v86 rfl rfl hS0 ?hy86 ?_
     case hy86 => (intro W hW; have e0 := gqcell hW m5 (.inr (by first | exact HGB.out | exact HGKD.out)); have e1 := gqcell hW k0 (.inr (by first | exact HGB.out | exact HGKD.out)); have e2 := gqcell hW k1 (.inr (by first | exact HGB.out | exact HGKD.out)); have e3 := gqcell hW k2 (.inr (by first | exact HGB.out | exact HGKD.out)); have e4 := gqcell hW k3 (.inr (by first | exact HGB.out | exact HGKD.out)); have e5 := gqcell hW k4 (.inr (by first | exact HGB.out | exact HGKD.out)); clear hW; go_simp; try rfl)
     simp only [ly]
     refine wpAnyH_ready (rs := [5]) (by kernel_rfl) (by simp) ?_
     refine AllReadyH.cons rfl (fun K hK => ?_) AllReadyH.nil
     go_simp
     go_at_call 48
     refine (clause16 D k h t1 t2 t3 cl op S G f kd z1 z2 n true _ HXU.out (Nat.le_trans HK.out (by decide)) HCL.out HHM.out).mono ?_
     rintro e w1 ⟨rfl, hq, hp⟩
     rw [HRB.out]
     clear hp
     refine hK.out _ _ ?hs87 (fun hS1 => ?_)
     case hs87 => exact GQ.trans hS0 hq
     clear hK K
     try simp only [ly]
     refine tkJ 6 4 hS1 ?_; simp only [ly]
     refine wpAnyH_done (by kernel_rfl) ?_ _
     have HQ := hide hS1
     have HBB : Hid (blB h cl G (some ((kd, true, z1, z2, n) : Cl)) = false) := HRB.out
     go_wp2
     go_ret
     exact ⟨by rw [HLP.out, HBB.out]; rfl, GQ.bel HB.out HQ.out HNW.out HGND.out, HKD.out.gq HBD.out.2.1 HQ.out, fun hh => by rw [HLP.out, HBB.out] at hh; cases hh⟩
    ·have HRB := hide hb
     clear hb
     refine wp_region_held_drew (S := fun W => GQ 4 D u W) (by kernel_rfl) ((GQ.refl 4 D u).drew) (fun hS0 => ?_)
     refine tkJ 0 64 hS0 ?_; simp only [ly]
     refine tkJ 1 65 hS0 ?_; simp only [ly]
     refine tkJ 2 66 hS0 ?_; simp only [ly]
     refine tkI 3 67 ?v92 rfl rfl hS0 ?hy92 ?_
     case hy92 => (intro W hW; have e0 := gqcell hW m5 (.inr (by first | exact HGB.out | exact HGKD.out)); have e1 := gqcell hW k0 (.inr (by first | exact HGB.out | exact HGKD.out)); have e2 := gqcell hW k1 (.inr (by first | exact HGB.out | exact HGKD.out)); have e3 := gqcell hW k2 (.inr (by first | exact HGB.out | exact HGKD.out)); have e4 := gqcell hW k3 (.inr (by first | exact HGB.out | exact HGKD.out)); have e5 := gqcell hW k4 (.inr (by first | exact HGB.out | exact HGKD.out)); clear hW; go_simp; try rfl)
     simp only [ly]
     refine tkI 4 68 ?v93 rfl rfl hS0 ?hy93 ?_
     case hy93 => (intro W hW; have e0 := gqcell hW m5 (.inr (by first | exact HGB.out | exact HGKD.out)); have e1 := gqcell hW k0 (.inr (by first | exact HGB.out | exact HGKD.out)); have e2 := gqcell hW k1 (.inr (by first | exact HGB.out | exact HGKD.out)); have e3 := gqcell hW k2 (.inr (by first | exact HGB.out | exact HGKD.out)); have e4 := gqcell hW k3 (.inr (by first | exact HGB.out | exact HGKD.out)); have e5 := gqcell hW k4 (.inr (by first | exact HGB.out | exact HGKD.out)); clear hW; go_simp; try rfl)
     simp only [ly]
     refine wpAnyH_ready (rs := [5]) (by kernel_rfl) (by simp) ?_
     refine AllReadyH.cons rfl (fun K hK => ?_) AllReadyH.nil
     go_simp
     go_at_call 48
     refine (clause16 D k h t1 t2 t3 cl op S G f kd z1 z2 n true _ HXU.out (Nat.le_trans HK.out (by decide)) HCL.out HHM.out).mono ?_
     rintro e w1 ⟨rfl, hq, hp⟩
     rw [HRB.out]
     have HP := hide (hp HRB.out)
     clear hp
     refine hK.out _ _ ?hs94 (fun hS1 => ?_)
     case hs94 => exact GQ.trans hS0 hq
     clear hK K
     try simp only [ly]
     refine tkJ 6 4 hS1 ?_; simp only [ly]
     refine wpAnyH_done (by kernel_rfl) ?_ _
     have HQ := hide hS1
     have HBB : Hid (blB h cl G (some ((kd, true, z1, z2, n) : Cl)) = true) := HRB.out
     go_wp2
     go_ret
     have hbd := BD.gq HBD.out HQ.out (SN.mono HP.out (show k + 1 ≤ k + 20 by omega))
     exact ⟨by rw [HLP.out, HBB.out]; rfl, GQ.bel HB.out HQ.out HNW.out HGND.out, HKD.out.gq HBD.out.2.1 HQ.out, fun _ => ⟨((kd, true, z1, z2, n) : Cl), HLP.out, v1, v2, v3, (.slice p7 n7 c7), v5, hbd⟩⟩
   ·go_simp
    have bq := bel1 x1 (.cells #[.int .i64 kd, .bool true, .int .i64 z1, .int .i64 z2, .int .i64 n] 43)
    have HE := hide (RS.new encCl_len x1 _ rfl [((kd, true, z1, z2, n) : Cl)] #[.int .i64 kd, .bool true, .int .i64 z1, .int .i64 z2, .int .i64 n] rfl 43 (0, 0) 1 rfl (by decide))
    replace HX := hide (HX.out.below bq)
    replace HSN := hide (HSN.out.below bq)
    replace HMM := hide (HMM.out.below bq)
    replace HW := hide (HW.out.below bq)
    replace HXK := hide (HXK.out.below bq)
    replace HKD := hide (HKD.out.next bq)
    replace HB := hide (HB.out.trans (bq.mono HNW.out))
    have hNw := Nat.le_trans HNW.out bq.size
    clear bq z0 k0 k1 k2 k3 k4 HNW
    have HNW := hide hNw
    clear hNw
    generalize x1.alloc (.cells #[.int .i64 kd, .bool true, .int .i64 z1, .int .i64 z2, .int .i64 n] 43) = x6 at *
    have z0 := HX.out.cell 3 _ rfl
    have k0 := HXK.out.cell 0 _ rfl
    have k1 := HXK.out.cell 1 _ rfl
    have k2 := HXK.out.cell 2 _ rfl
    have k3 := HXK.out.cell 3 _ rfl
    have k4 := HXK.out.cell 4 _ rfl
    first | (refine hK _ _ ?_; clear hK K) | skip
    try simp only [ly]
    refine wpAny_ready (rs := [5]) (by kernel_rfl) (by simp) ?_
    refine AllReady.cons rfl (fun K hK => ?_) AllReady.nil
    go_simp
    first | (refine hK _ _ ?_; clear hK K) | skip
    try simp only [ly]
    refine wpAny_ready (rs := [8]) (by kernel_rfl) (by simp) ?_
    refine AllReady.cons rfl (fun K hK => ?_) AllReady.nil
    refine append_wh _ _ 26 rfl Tryz.underlying26 Tryz.infoCl rfl (by decide) (by decide) encCl_len encCl_one N _ r.2.2.2.1 [((kd, true, z1, z2, n) : Cl)] rfl HW.out.1.2.2.2.1 ⟨_, 0, none⟩ 1 1 rfl (by decide) HE.out (by have h9 := HLN.out; simp only [List.length_singleton]; omega) HNW.out ?_
    intro v7 x7 ho hgr hbel hwh
    obtain ⟨p7, c7, hv7, _, _⟩ := ho.open encCl_len
    obtain ⟨n7, hn7⟩ : ∃ n7, (r.2.2.2.1 ++ [((kd, true, z1, z2, n) : Cl)]).length = n7 := ⟨_, rfl⟩
    rw [hn7] at hv7
    subst hv7
    clear hn7
    have HB7 : Hid (Below N w0 x7) := hbel w0 HB.out
    replace HX := hide (HX.out.grown hgr (OwnR.off HW.out.1.2.2.2.1 HX.out (by decide)))
    replace HXK := hide (HXK.out.grown hgr HAK.out)
    replace HKD := hide (HKD.out.grown HW.out.1.2.2.2.1 (by decide) hgr)
    replace HSN := hide (HSN.out.grown HW.out.1.2.2.2.1 (by decide) hgr)
    replace HMM := hide (HMM.out.grown HW.out.1.2.2.2.1 hgr)
    have HNW7 := hide (Nat.le_trans HNW.out hgr.size)
    replace HW := hide (HW.out.cls ho hgr)
    clear ho hgr hbel hwh HE z0 HB HNW k0 k1 k2 k3 k4
    have z0 := HX.out.cell 3 _ rfl
    have y0 := HX.out.free 3
    change K (Act.put _ (some 60) _) _
    first | (refine hK _ _ ?_; clear hK K) | skip
    try simp only [ly]
    refine takeP 9 61 ?v96 rfl rfl (by kernel_rfl) (by kernel_rfl) (by kernel_rfl) (fun _ _ _ h => h) (by kernel_rfl) ?hy96 ?_
    case hy96 => (intro W; go_simp; try rfl)
    simp only [ly]
    refine takeP 10 62 ?v97 rfl rfl (by kernel_rfl) (by kernel_rfl) (by kernel_rfl) (fun _ _ _ h => h) (by kernel_rfl) ?hy97 ?_
    case hy97 => (intro W; go_simp; try rfl)
    simp only [ly]
    refine takeP 11 63 ?v98 rfl rfl (by kernel_rfl) (by kernel_rfl) (by kernel_rfl) (fun _ _ _ h => h) (by kernel_rfl) ?hy98 ?_
    case hy98 => (intro W; go_simp; try rfl)
    simp only [ly]
    refine wpAny_ready (rs := [12]) (by kernel_rfl) (by simp) ?_
    refine AllReady.cons rfl (fun K hK => ?_) AllReady.nil
    go_simp
    first | (refine hK _ _ ?_; clear hK K) | skip
    try simp only [ly]
    refine wpAny_done (by kernel_rfl) ?_ _
    have HX0 := hide HX.out
    replace HKD := hide (HKD.out.set HX0.out 3 (.slice p7 n7 c7))
    replace HX := hide (HX0.out.set 3 (.slice p7 n7 c7))
    replace HXK : Hid (BX (x7.setCell ⟨gb, 3, none⟩ (.slice p7 n7 c7)) gk #[.int .i64 kd, .bool true, .int .i64 z1, .int .i64 z2, .int .i64 n] 43) := BX.other HXK.out (Ne.symm HGK.out) 3 (.slice p7 n7 c7)
    replace HSN := hide (SN.set HSN.out (.inr HGB.out) 3 (.slice p7 n7 c7))
    replace HMM := hide (HMM.out.set HGM.out 3 (.slice p7 n7 c7))
    replace HW := hide (RW.set HW.out HX0.out ty_bld 3 (.slice p7 n7 c7))
    have HB : Hid (Below N w0 (x7.setCell ⟨gb, 3, none⟩ (.slice p7 n7 c7))) := HB7.out.setCell (p := ⟨gb, 3, none⟩) HGN.out (.slice p7 n7 c7)
    have HNW : Hid (N ≤ (x7.setCell ⟨gb, 3, none⟩ (.slice p7 n7 c7)).heap.size) := by unfold Hid; simpa [World.setCell] using HNW7.out
    clear z0 y0 HB7 HNW7 HX0
    go_upto_region 8 with fail
    generalize x7.setCell ⟨gb, 3, none⟩ (.slice p7 n7 c7) = u at *
    have HBD : Hid (BD N u gb D M h k ((t1, t2, t3, cl, op), S, G, f) fn v1 v2 v3 (.slice p7 n7 c7) v5 (r.1, r.2.1, r.2.2.1, r.2.2.2.1 ++ [((kd, true, z1, z2, n) : Cl)], r.2.2.2.2)) := ⟨HX.out, HSN.out, HMM.out, HW.out, HGB.out, HGMD.out, HGMN.out, HNW.out⟩
    have HXU : Hid (SN u.drew D h k ((t1, t2, t3, cl, op), S, G, f)) := HSN.out.below (Below.refl u.heap.size u).drew
    have m5 : u.cell? ⟨gb, 5, none⟩ = some (.pointer (some ⟨D + 3, 0, none⟩)) := HX.out.cell 5 _ rfl
    have k0 := HXK.out.cell 0 _ rfl
    have k1 := HXK.out.cell 1 _ rfl
    have k2 := HXK.out.cell 2 _ rfl
    have k3 := HXK.out.cell 3 _ rfl
    have k4 := HXK.out.cell 4 _ rfl
    rcases hb : clsS h cl G (kd, true, z1, z2, n) with _ | _
    ·have HRB := hide hb
     clear hb
     refine wp_region_held_drew (S := fun W => GQ 4 D u W) (by kernel_rfl) ((GQ.refl 4 D u).drew) (fun hS0 => ?_)
     refine tkJ 0 64 hS0 ?_; simp only [ly]
     refine tkJ 1 65 hS0 ?_; simp only [ly]
     refine tkJ 2 66 hS0 ?_; simp only [ly]
     refine tkI 3 67 ?v102 rfl rfl hS0 ?hy102 ?_
     case hy102 => (intro W hW; have e0 := gqcell hW m5 (.inr (by first | exact HGB.out | exact HGKD.out)); have e1 := gqcell hW k0 (.inr (by first | exact HGB.out | exact HGKD.out)); have e2 := gqcell hW k1 (.inr (by first | exact HGB.out | exact HGKD.out)); have e3 := gqcell hW k2 (.inr (by first | exact HGB.out | exact HGKD.out)); have e4 := gqcell hW k3 (.inr (by first | exact HGB.out | exact HGKD.out)); have e5 := gqcell hW k4 (.inr (by first | exact HGB.out | exact HGKD.out)); clear hW; go_simp; try rfl)
     simp only [ly]
     refine tkI 4 68 ?v103 rfl rfl hS0 ?hy103 ?_
     case hy103 => (intro W hW; have e0 := gqcell hW m5 (.inr (by first | exact HGB.out | exact HGKD.out)); have e1 := gqcell hW k0 (.inr (by first | exact HGB.out | exact HGKD.out)); have e2 := gqcell hW k1 (.inr (by first | exact HGB.out | exact HGKD.out)); have e3 := gqcell hW k2 (.inr (by first | exact HGB.out | exact HGKD.out)); have e4 := gqcell hW k3 (.inr (by first | exact HGB.out | exact HGKD.out)); have e5 := gqcell hW k4 (.inr (by first | exact HGB.out | exact HGKD.out)); clear hW; go_simp; try rfl)
     simp only [ly]
     refine wpAnyH_ready (rs := [5]) (by kernel_rfl) (by simp) ?_
     refine AllReadyH.cons rfl (fun K hK => ?_) AllReadyH.nil
     go_simp
     go_at_call 48
     refine (clause16 D k h t1 t2 t3 cl op S G f kd z1 z2 n true _ HXU.out (Nat.le_trans HK.out (by decide)) HCL.out HHM.out).mono ?_
     rintro e w1 ⟨rfl, hq, hp⟩
     rw [HRB.out]
     clear hp
     refine hK.out _ _ ?hs104 (fun hS1 => ?_)
     case hs104 => exact GQ.trans hS0 hq
     clear hK K
     try simp only [ly]
     refine tkJ 6 4 hS1 ?_; simp only [ly]
     refine wpAnyH_done (by kernel_rfl) ?_ _
     have HQ := hide hS1
     have HBB : Hid (blB h cl G (some ((kd, true, z1, z2, n) : Cl)) = false) := HRB.out
     go_wp2
     go_ret
     exact ⟨by rw [HLP.out, HBB.out]; rfl, GQ.bel HB.out HQ.out HNW.out HGND.out, HKD.out.gq HBD.out.2.1 HQ.out, fun hh => by rw [HLP.out, HBB.out] at hh; cases hh⟩
    ·have HRB := hide hb
     clear hb
     refine wp_region_held_drew (S := fun W => GQ 4 D u W) (by kernel_rfl) ((GQ.refl 4 D u).drew) (fun hS0 => ?_)
     refine tkJ 0 64 hS0 ?_; simp only [ly]
     refine tkJ 1 65 hS0 ?_; simp only [ly]
     refine tkJ 2 66 hS0 ?_; simp only [ly]
     refine tkI 3 67 ?v109 rfl rfl hS0 ?hy109 ?_
     case hy109 => (intro W hW; have e0 := gqcell hW m5 (.inr (by first | exact HGB.out | exact HGKD.out)); have e1 := gqcell hW k0 (.inr (by first | exact HGB.out | exact HGKD.out)); have e2 := gqcell hW k1 (.inr (by first | exact HGB.out | exact HGKD.out)); have e3 := gqcell hW k2 (.inr (by first | exact HGB.out | exact HGKD.out)); have e4 := gqcell hW k3 (.inr (by first | exact HGB.out | exact HGKD.out)); have e5 := gqcell hW k4 (.inr (by first | exact HGB.out | exact HGKD.out)); clear hW; go_simp; try rfl)
     simp only [ly]
     refine tkI 4 68 ?v110 rfl rfl hS0 ?hy110 ?_
     case hy110 => (intro W hW; have e0 := gqcell hW m5 (.inr (by first | exact HGB.out | exact HGKD.out)); have e1 := gqcell hW k0 (.inr (by first | exact HGB.out | exact HGKD.out)); have e2 := gqcell hW k1 (.inr (by first | exact HGB.out | exact HGKD.out)); have e3 := gqcell hW k2 (.inr (by first | exact HGB.out | exact HGKD.out)); have e4 := gqcell hW k3 (.inr (by first | exact HGB.out | exact HGKD.out)); have e5 := gqcell hW k4 (.inr (by first | exact HGB.out | exact HGKD.out)); clear hW; go_simp; try rfl)
     simp only [ly]
     refine wpAnyH_ready (rs := [5]) (by kernel_rfl) (by simp) ?_
     refine AllReadyH.cons rfl (fun K hK => ?_) AllReadyH.nil
     go_simp
     go_at_call 48
     refine (clause16 D k h t1 t2 t3 cl op S G f kd z1 z2 n true _ HXU.out (Nat.le_trans HK.out (by decide)) HCL.out HHM.out).mono ?_
     rintro e w1 ⟨rfl, hq, hp⟩
     rw [HRB.out]
     have HP := hide (hp HRB.out)
     clear hp
     refine hK.out _ _ ?hs111 (fun hS1 => ?_)
     case hs111 => exact GQ.trans hS0 hq
     clear hK K
     try simp only [ly]
     refine tkJ 6 4 hS1 ?_; simp only [ly]
     refine wpAnyH_done (by kernel_rfl) ?_ _
     have HQ := hide hS1
     have HBB : Hid (blB h cl G (some ((kd, true, z1, z2, n) : Cl)) = true) := HRB.out
     go_wp2
     go_ret
     have hbd := BD.gq HBD.out HQ.out (SN.mono HP.out (show k + 1 ≤ k + 20 by omega))
     exact ⟨by rw [HLP.out, HBB.out]; rfl, GQ.bel HB.out HQ.out HNW.out HGND.out, HKD.out.gq HBD.out.2.1 HQ.out, fun _ => ⟨((kd, true, z1, z2, n) : Cl), HLP.out, v1, v2, v3, (.slice p7 n7 c7), v5, hbd⟩⟩
end Go.Proofs.YtomppblgalepjaaGreatDoor

