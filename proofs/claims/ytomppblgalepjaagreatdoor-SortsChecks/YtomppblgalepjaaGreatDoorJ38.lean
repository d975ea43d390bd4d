/- Texts of this claim, joined: OT. -/
import Derived.Test.YtomppblgalepjaaGreatDoorJ37
/- The program's builder: a line, but an operation's (layer 16). -/
namespace Go.Proofs.YtomppblgalepjaaGreatDoor
open Go.RowKit Go.Lib
set_option linter.unusedVariables false
def stepP (h : Int × Int × Int) (fn : Int → ByteArray → Option Int) (s : Sn16 × Ru) (kd : Int) (st : Bool) (nm ot : ByteArray) (n : Int) : Option (Sn16 × Ru) :=
 if kd = 1 then (if thB1 s.1.1.1 s.1.2.1 nm = true then some (((s.1.1.1 + 1, s.1.1.2), s.1.2.1 ++ [nm], s.1.2.2), (s.2.1 ++ [nm], s.2.2)) else none)
 else if kd = 2 then (if thB2 s.1.1.2.1 s.1.2.1 nm = true then some (((s.1.1.1, s.1.1.2.1 + 1, s.1.1.2.2), s.1.2.1 ++ [nm], s.1.2.2), (s.2.1, s.2.2.1 ++ [nm], s.2.2.2)) else none)
 else if kd = 3 then (if thB3 s.1.1.2.2.1 s.1.2.1 nm = true then some (((s.1.1.1, s.1.1.2.1, s.1.1.2.2.1 + 1, s.1.1.2.2.2), s.1.2.1 ++ [nm], s.1.2.2), (s.2.1, s.2.2.1, s.2.2.2.1 ++ [nm], s.2.2.2.2)) else none)
 else match lnP fn kd st nm ot n with
  | some c => if clsS h s.1.1.2.2.2.1 s.1.2.2.1 c = true then some (((s.1.1.1, s.1.1.2.1, s.1.1.2.2.1, s.1.1.2.2.2.1 + 1, s.1.1.2.2.2.2), s.1.2.1, flo8 c.1 c.2.2.1 s.1.2.2.1, s.1.2.2.2), (s.2.1, s.2.2.1, s.2.2.2.1, s.2.2.2.2.1 ++ [c], s.2.2.2.2.2)) else none
  | none => none
def LQ (N gb D M : Nat) (h : Int × Int × Int) (k : Nat) (fn : Int → ByteArray → Option Int) (o : Option (Sn16 × Ru)) (w0 w : World) (e : Ending) (w' : World) : Prop :=
 e = .returned (.bool o.isSome) ∧ Below N w0 w' ∧ KpD w w' ∧ ∀ s', o = some s' → ∃ v1 v2 v3 v4 v5, BD N w' gb D M h (k + 20) s'.1 fn v1 v2 v3 v4 v5 s'.2
set_option maxHeartbeats 4000000 in
theorem line16 (N gb D M k : Nat) (h : Int × Int × Int) (t1 t2 t3 cl op : Int) (S : List ByteArray) (G : List Int) (f : Int → Int → Int) (fn : Int → ByteArray → Option Int) (v1 v2 v3 v4 v5 : Value) (r : Ru) (kd : Int) (st : Bool) (nm ot : ByteArray) (n ln : Int) (p : Option Addr) (m c : Nat) (w0 w : World) (hD : BD N w gb D M h k ((t1, t2, t3, cl, op), S, G, f) fn v1 v2 v3 v4 v5 r) (hB : Below N w0 w) (hk : k ≤ 9000) (hs : nm.size ≤ maxLen) (hs2 : ot.size ≤ maxLen) (ht1 : 0 ≤ t1 ∧ t1 ≤ 1000) (ht2 : 0 ≤ t2 ∧ t2 ≤ 1000) (ht3 : 0 ≤ t3 ∧ t3 ≤ 1000) (hc : 0 ≤ cl ∧ cl ≤ 1000) (hl1 : r.1.length ≤ 1000) (hl2 : r.2.1.length ≤ 1000) (hl3 : r.2.2.1.length ≤ 1000) (hl4 : r.2.2.2.1.length ≤ 1000) (hh : h.2.1 ≤ 1000000) (h10 : kd ≠ 10) :
  Calls Tryz.prog 16 #[.pointer (some ⟨gb, 0, none⟩), .agg #[.int .i64 kd, .bool st, .string nm, .string ot, .int .i64 n, .slice p m c, .int .i64 ln]] w (LQ N gb D M h k fn (stepP h fn (((t1, t2, t3, cl, op), S, G, f), r) kd st nm ot n) w0 w) := by
 by_cases h1 : kd = 1
 ·subst h1
  unfold stepP
  rw [if_pos rfl]
  simp only
  have HC := hide (fun u (hd : BD N u gb D M h k ((t1, t2, t3, cl, op), S, G, f) fn v1 v2 v3 v4 v5 r) (hb : Below N w0 u) => bthing16_1 N gb D M k h t1 t2 t3 cl op S G f fn v1 v2 v3 v4 v5 r st nm ot n ln p m c w0 u hd hb hk hs ht1 hl1)
  clear hk hs hs2 ht1 ht2 ht3 hc hl1 hl2 hl3 hl4 hh h10
  rcases hb : thB1 t1 S nm with _ | _
  ·have HRB := hide hb
   rw [if_neg (by decide)]
   clear hb
   have HX : Hid (BX (w.alloc (.cells #[.int .i64 1, .bool st, .string nm, .string ot, .int .i64 n, .slice p m c, .int .i64 ln] 38)) w.heap.size #[.int .i64 1, .bool st, .string nm, .string ot, .int .i64 n, .slice p m c, .int .i64 ln] 38) := BX.new w _ rfl _ _
   have HBD := hide (hD.below (bel1 w (.cells #[.int .i64 1, .bool st, .string nm, .string ot, .int .i64 n, .slice p m c, .int .i64 ln] 38)))
   have HB : Hid (Below N w0 (w.alloc (.cells #[.int .i64 1, .bool st, .string nm, .string ot, .int .i64 n, .slice p m c, .int .i64 ln] 38))) := hB.alloc hD.2.2.2.2.2.2.2 _
   have HBW := hide (bel1 w (.cells #[.int .i64 1, .bool st, .string nm, .string ot, .int .i64 n, .slice p m c, .int .i64 ln] 38))
   clear hD hB
   go_enter Tryz.func16, Tryz.ntmps16
   go_upto_region 1 with fail
   generalize w.alloc (.cells #[.int .i64 1, .bool st, .string nm, .string ot, .int .i64 n, .slice p m c, .int .i64 ln] 38) = u at *
   have d0 := HX.out.cell 0 _ rfl
   have d1 := HX.out.cell 1 _ rfl
   have d2 := HX.out.cell 2 _ rfl
   have d3 := HX.out.cell 3 _ rfl
   have d4 := HX.out.cell 4 _ rfl
   have d5 := HX.out.cell 5 _ rfl
   have d6 := HX.out.cell 6 _ rfl
   clear HX
   go_wp2_with (go_at_call 37; refine (HC.out _ HBD.out HB.out).mono ?_; rintro e w1 ⟨rfl, hb1, hkd, hp⟩; rw [HRB.out]; have HB1 := hide hb1; have HK1 := hide hkd; clear hb1 hp hkd)
   go_ret
   exact ⟨rfl, HB1.out, (fun g C q => HK1.out g C (q.below HBW.out)), fun s' hs' => by cases hs'⟩
  ·have HRB := hide hb
   rw [if_pos rfl]
   clear hb
   have HX : Hid (BX (w.alloc (.cells #[.int .i64 1, .bool st, .string nm, .string ot, .int .i64 n, .slice p m c, .int .i64 ln] 38)) w.heap.size #[.int .i64 1, .bool st, .string nm, .string ot, .int .i64 n, .slice p m c, .int .i64 ln] 38) := BX.new w _ rfl _ _
   have HBD := hide (hD.below (bel1 w (.cells #[.int .i64 1, .bool st, .string nm, .string ot, .int .i64 n, .slice p m c, .int .i64 ln] 38)))
   have HB : Hid (Below N w0 (w.alloc (.cells #[.int .i64 1, .bool st, .string nm, .string ot, .int .i64 n, .slice p m c, .int .i64 ln] 38))) := hB.alloc hD.2.2.2.2.2.2.2 _
   have HBW := hide (bel1 w (.cells #[.int .i64 1, .bool st, .string nm, .string ot, .int .i64 n, .slice p m c, .int .i64 ln] 38))
   clear hD hB
   go_enter Tryz.func16, Tryz.ntmps16
   go_upto_region 1 with fail
   generalize w.alloc (.cells #[.int .i64 1, .bool st, .string nm, .string ot, .int .i64 n, .slice p m c, .int .i64 ln] 38) = u at *
   have d0 := HX.out.cell 0 _ rfl
   have d1 := HX.out.cell 1 _ rfl
   have d2 := HX.out.cell 2 _ rfl
   have d3 := HX.out.cell 3 _ rfl
   have d4 := HX.out.cell 4 _ rfl
   have d5 := HX.out.cell 5 _ rfl
   have d6 := HX.out.cell 6 _ rfl
   clear HX
   go_wp2_with (go_at_call 37; refine (HC.out _ HBD.out HB.out).mono ?_; rintro e w1 ⟨rfl, hb1, hkd, hp⟩; rw [HRB.out]; have HB1 := hide hb1; have HK1 := hide hkd; have HP := hide (hp HRB.out); clear hb1 hp hkd)
   go_ret
   exact ⟨rfl, HB1.out, (fun g C q => HK1.out g C (q.below HBW.out)), fun s' hs' => by cases hs'; exact HP.out⟩
 by_cases h2 : kd = 2
 ·subst h2
  unfold stepP
  rw [if_neg (by decide), if_pos rfl]
  simp only
  have HC := hide (fun u (hd : BD N u gb D M h k ((t1, t2, t3, cl, op), S, G, f) fn v1 v2 v3 v4 v5 r) (hb : Below N w0 u) => bthing16_2 N gb D M k h t1 t2 t3 cl op S G f fn v1 v2 v3 v4 v5 r st nm ot n ln p m c w0 u hd hb hk hs ht2 hl2)
  clear hk hs hs2 ht1 ht2 ht3 hc hl1 hl2 hl3 hl4 hh h10
  rcases hb : thB2 t2 S nm with _ | _
  ·have HRB := hide hb
   rw [if_neg (by decide)]
   clear hb
   have HX : Hid (BX (w.alloc (.cells #[.int .i64 2, .bool st, .string nm, .string ot, .int .i64 n, .slice p m c, .int .i64 ln] 38)) w.heap.size #[.int .i64 2, .bool st, .string nm, .string ot, .int .i64 n, .slice p m c, .int .i64 ln] 38) := BX.new w _ rfl _ _
   have HBD := hide (hD.below (bel1 w (.cells #[.int .i64 2, .bool st, .string nm, .string ot, .int .i64 n, .slice p m c, .int .i64 ln] 38)))
   have HB : Hid (Below N w0 (w.alloc (.cells #[.int .i64 2, .bool st, .string nm, .string ot, .int .i64 n, .slice p m c, .int .i64 ln] 38))) := hB.alloc hD.2.2.2.2.2.2.2 _
   have HBW := hide (bel1 w (.cells #[.int .i64 2, .bool st, .string nm, .string ot, .int .i64 n, .slice p m c, .int .i64 ln] 38))
   clear hD hB
   go_enter Tryz.func16, Tryz.ntmps16
   go_upto_region 1 with fail
   generalize w.alloc (.cells #[.int .i64 2, .bool st, .string nm, .string ot, .int .i64 n, .slice p m c, .int .i64 ln] 38) = u at *
   have d0 := HX.out.cell 0 _ rfl
   have d1 := HX.out.cell 1 _ rfl
   have d2 := HX.out.cell 2 _ rfl
   have d3 := HX.out.cell 3 _ rfl
   have d4 := HX.out.cell 4 _ rfl
   have d5 := HX.out.cell 5 _ rfl
   have d6 := HX.out.cell 6 _ rfl
   clear HX
   go_wp2_with (go_at_call 37; refine (HC.out _ HBD.out HB.out).mono ?_; rintro e w1 ⟨rfl, hb1, hkd, hp⟩; rw [HRB.out]; have HB1 := hide hb1; have HK1 := hide hkd; clear hb1 hp hkd)
   go_ret
   exact ⟨rfl, HB1.out, (fun g C q => HK1.out g C (q.below HBW.out)), fun s' hs' => by cases hs'⟩
  ·have HRB := hide hb
   rw [if_pos rfl]
   clear hb
   have HX : Hid (BX (w.alloc (.cells #[.int .i64 2, .bool st, .string nm, .string ot, .int .i64 n, .slice p m c, .int .i64 ln] 38)) w.heap.size #[.int .i64 2, .bool st, .string nm, .string ot, .int .i64 n, .slice p m c, .int .i64 ln] 38) := BX.new w _ rfl _ _
   have HBD := hide (hD.below (bel1 w (.cells #[.int .i64 2, .bool st, .string nm, .string ot, .int .i64 n, .slice p m c, .int .i64 ln] 38)))
   have HB : Hid (Below N w0 (w.alloc (.cells #[.int .i64 2, .bool st, .string nm, .string ot, .int .i64 n, .slice p m c, .int .i64 ln] 38))) := hB.alloc hD.2.2.2.2.2.2.2 _
   have HBW := hide (bel1 w (.cells #[.int .i64 2, .bool st, .string nm, .string ot, .int .i64 n, .slice p m c, .int .i64 ln] 38))
   clear hD hB
   go_enter Tryz.func16, Tryz.ntmps16
   go_upto_region 1 with fail
   generalize w.alloc (.cells #[.int .i64 2, .bool st, .string nm, .string ot, .int .i64 n, .slice p m c, .int .i64 ln] 38) = u at *
   have d0 := HX.out.cell 0 _ rfl
   have d1 := HX.out.cell 1 _ rfl
   have d2 := HX.out.cell 2 _ rfl
   have d3 := HX.out.cell 3 _ rfl
   have d4 := HX.out.cell 4 _ rfl
   have d5 := HX.out.cell 5 _ rfl
   have d6 := HX.out.cell 6 _ rfl
   clear HX
   go_wp2_with (go_at_call 37; refine (HC.out _ HBD.out HB.out).mono ?_; rintro e w1 ⟨rfl, hb1, hkd, hp⟩; rw [HRB.out]; have HB1 := hide hb1; have HK1 := hide hkd; have HP := hide (hp HRB.out); clear hb1 hp hkd)
   go_ret
   exact ⟨rfl, HB1.out, (fun g C q => HK1.out g C (q.below HBW.out)), fun s' hs' => by cases hs'; exact HP.out⟩
 by_cases h3 : kd = 3
 ·subst h3
  unfold stepP
  rw [if_neg (by decide), if_neg (by decide), if_pos rfl]
  simp only
  have HC := hide (fun u (hd : BD N u gb D M h k ((t1, t2, t3, cl, op), S, G, f) fn v1 v2 v3 v4 v5 r) (hb : Below N w0 u) => bthing16_3 N gb D M k h t1 t2 t3 cl op S G f fn v1 v2 v3 v4 v5 r st nm ot n ln p m c w0 u hd hb hk hs ht3 hl3)
  clear hk hs hs2 ht1 ht2 ht3 hc hl1 hl2 hl3 hl4 hh h10
  rcases hb : thB3 t3 S nm with _ | _
  ·have HRB := hide hb
   rw [if_neg (by decide)]
   clear hb
   have HX : Hid (BX (w.alloc (.cells #[.int .i64 3, .bool st, .string nm, .string ot, .int .i64 n, .slice p m c, .int .i64 ln] 38)) w.heap.size #[.int .i64 3, .bool st, .string nm, .string ot, .int .i64 n, .slice p m c, .int .i64 ln] 38) := BX.new w _ rfl _ _
   have HBD := hide (hD.below (bel1 w (.cells #[.int .i64 3, .bool st, .string nm, .string ot, .int .i64 n, .slice p m c, .int .i64 ln] 38)))
   have HB : Hid (Below N w0 (w.alloc (.cells #[.int .i64 3, .bool st, .string nm, .string ot, .int .i64 n, .slice p m c, .int .i64 ln] 38))) := hB.alloc hD.2.2.2.2.2.2.2 _
   have HBW := hide (bel1 w (.cells #[.int .i64 3, .bool st, .string nm, .string ot, .int .i64 n, .slice p m c, .int .i64 ln] 38))
   clear hD hB
   go_enter Tryz.func16, Tryz.ntmps16
   go_upto_region 1 with fail
   generalize w.alloc (.cells #[.int .i64 3, .bool st, .string nm, .string ot, .int .i64 n, .slice p m c, .int .i64 ln] 38) = u at *
   have d0 := HX.out.cell 0 _ rfl
   have d1 := HX.out.cell 1 _ rfl
   have d2 := HX.out.cell 2 _ rfl
   have d3 := HX.out.cell 3 _ rfl
   have d4 := HX.out.cell 4 _ rfl
   have d5 := HX.out.cell 5 _ rfl
   have d6 := HX.out.cell 6 _ rfl
   clear HX
   go_wp2_with (go_at_call 37; refine (HC.out _ HBD.out HB.out).mono ?_; rintro e w1 ⟨rfl, hb1, hkd, hp⟩; rw [HRB.out]; have HB1 := hide hb1; have HK1 := hide hkd; clear hb1 hp hkd)
   go_ret
   exact ⟨rfl, HB1.out, (fun g C q => HK1.out g C (q.below HBW.out)), fun s' hs' => by cases hs'⟩
  ·have HRB := hide hb
   rw [if_pos rfl]
   clear hb
   have HX : Hid (BX (w.alloc (.cells #[.int .i64 3, .bool st, .string nm, .string ot, .int .i64 n, .slice p m c, .int .i64 ln] 38)) w.heap.size #[.int .i64 3, .bool st, .string nm, .string ot, .int .i64 n, .slice p m c, .int .i64 ln] 38) := BX.new w _ rfl _ _
   have HBD := hide (hD.below (bel1 w (.cells #[.int .i64 3, .bool st, .string nm, .string ot, .int .i64 n, .slice p m c, .int .i64 ln] 38)))
   have HB : Hid (Below N w0 (w.alloc (.cells #[.int .i64 3, .bool st, .string nm, .string ot, .int .i64 n, .slice p m c, .int .i64 ln] 38))) := hB.alloc hD.2.2.2.2.2.2.2 _
   have HBW := hide (bel1 w (.cells #[.int .i64 3, .bool st, .string nm, .string ot, .int .i64 n, .slice p m c, .int .i64 ln] 38))
   clear hD hB
   go_enter Tryz.func16, Tryz.ntmps16
   go_upto_region 1 with fail
   generalize w.alloc (.cells #[.int .i64 3, .bool st, .string nm, .string ot, .int .i64 n, .slice p m c, .int .i64 ln] 38) = u at *
   have d0 := HX.out.cell 0 _ rfl
   have d1 := HX.out.cell 1 _ rfl
   have d2 := HX.out.cell 2 _ rfl
   have d3 := HX.out.cell 3 _ rfl
   have d4 := HX.out.cell 4 _ rfl
   have d5 := HX.out.cell 5 _ rfl
   have d6 := HX.out.cell 6 _ rfl
   clear HX
   go_wp2_with (go_at_call 37; refine (HC.out _ HBD.out HB.out).mono ?_; rintro e w1 ⟨rfl, hb1, hkd, hp⟩; rw [HRB.out]; have HB1 := hide hb1; have HK1 := hide hkd; have HP := hide (hp HRB.out); clear hb1 hp hkd)
   go_ret
   exact ⟨rfl, HB1.out, (fun g C q => HK1.out g C (q.below HBW.out)), fun s' hs' => by cases hs'; exact HP.out⟩
 unfold stepP
 rw [if_neg h1, if_neg h2, if_neg h3]
 simp only
 have HC := hide (fun u (hd : BD N u gb D M h k ((t1, t2, t3, cl, op), S, G, f) fn v1 v2 v3 v4 v5 r) (hb : Below N w0 u) => bclause16 N gb D M k h t1 t2 t3 cl op S G f fn v1 v2 v3 v4 v5 r kd st nm ot n ln p m c w0 u hd hb hk hs hs2 hc hl4 hh)
 have b1 : (kd == 1) = false := by simpa using h1
 have b2 : (kd == 2) = false := by simpa using h2
 have b3 : (kd == 3) = false := by simpa using h3
 have b10 : (kd == 10) = false := by simpa using h10
 clear hk hs hs2 ht1 ht2 ht3 hc hl1 hl2 hl3 hl4 hh h10 h1 h2 h3
 rcases hln : lnP fn kd st nm ot n with _ | cc
 ·have HRB : Hid (blB h cl G (lnP fn kd st nm ot n) = false) := by unfold Hid; rw [hln]; rfl
  simp only
  clear hln
  have HX : Hid (BX (w.alloc (.cells #[.int .i64 kd, .bool st, .string nm, .string ot, .int .i64 n, .slice p m c, .int .i64 ln] 38)) w.heap.size #[.int .i64 kd, .bool st, .string nm, .string ot, .int .i64 n, .slice p m c, .int .i64 ln] 38) := BX.new w _ rfl _ _
  have HBD := hide (hD.below (bel1 w (.cells #[.int .i64 kd, .bool st, .string nm, .string ot, .int .i64 n, .slice p m c, .int .i64 ln] 38)))
  have HB : Hid (Below N w0 (w.alloc (.cells #[.int .i64 kd, .bool st, .string nm, .string ot, .int .i64 n, .slice p m c, .int .i64 ln] 38))) := hB.alloc hD.2.2.2.2.2.2.2 _
  have HBW := hide (bel1 w (.cells #[.int .i64 kd, .bool st, .string nm, .string ot, .int .i64 n, .slice p m c, .int .i64 ln] 38))
  clear hD hB
  go_enter Tryz.func16, Tryz.ntmps16
  go_upto_region 1 with fail
  generalize w.alloc (.cells #[.int .i64 kd, .bool st, .string nm, .string ot, .int .i64 n, .slice p m c, .int .i64 ln] 38) = u at *
  have d0 := HX.out.cell 0 _ rfl
  have d1 := HX.out.cell 1 _ rfl
  have d2 := HX.out.cell 2 _ rfl
  have d3 := HX.out.cell 3 _ rfl
  have d4 := HX.out.cell 4 _ rfl
  have d5 := HX.out.cell 5 _ rfl
  have d6 := HX.out.cell 6 _ rfl
  clear HX
  go_wp2_with (go_at_call 39; refine (HC.out _ HBD.out HB.out).mono ?_; rintro e w1 ⟨rfl, hb1, hkd, hp⟩; rw [HRB.out]; have HB1 := hide hb1; have HK1 := hide hkd; clear hb1 hp hkd)
  go_ret
  exact ⟨rfl, HB1.out, (fun g C q => HK1.out g C (q.below HBW.out)), fun s' hs' => by cases hs'⟩
 have HLN := hide hln
 simp only
 rcases hb : clsS h cl G cc with _ | _
 ·have HRB : Hid (blB h cl G (lnP fn kd st nm ot n) = false) := by unfold Hid; rw [hln]; exact hb
  rw [if_neg (by decide)]
  clear hb hln
  have HX : Hid (BX (w.alloc (.cells #[.int .i64 kd, .bool st, .string nm, .string ot, .int .i64 n, .slice p m c, .int .i64 ln] 38)) w.heap.size #[.int .i64 kd, .bool st, .string nm, .string ot, .int .i64 n, .slice p m c, .int .i64 ln] 38) := BX.new w _ rfl _ _
  have HBD := hide (hD.below (bel1 w (.cells #[.int .i64 kd, .bool st, .string nm, .string ot, .int .i64 n, .slice p m c, .int .i64 ln] 38)))
  have HB : Hid (Below N w0 (w.alloc (.cells #[.int .i64 kd, .bool st, .string nm, .string ot, .int .i64 n, .slice p m c, .int .i64 ln] 38))) := hB.alloc hD.2.2.2.2.2.2.2 _
  have HBW := hide (bel1 w (.cells #[.int .i64 kd, .bool st, .string nm, .string ot, .int .i64 n, .slice p m c, .int .i64 ln] 38))
  clear hD hB
  go_enter Tryz.func16, Tryz.ntmps16
  go_upto_region 1 with fail
  generalize w.alloc (.cells #[.int .i64 kd, .bool st, .string nm, .string ot, .int .i64 n, .slice p m c, .int .i64 ln] 38) = u at *
  have d0 := HX.out.cell 0 _ rfl
  have d1 := HX.out.cell 1 _ rfl
  have d2 := HX.out.cell 2 _ rfl
  have d3 := HX.out.cell 3 _ rfl
  have d4 := HX.out.cell 4 _ rfl
  have d5 := HX.out.cell 5 _ rfl
  have d6 := HX.out.cell 6 _ rfl
  clear HX
  go_wp2_with (go_at_call 39; refine (HC.out _ HBD.out HB.out).mono ?_; rintro e w1 ⟨rfl, hb1, hkd, hp⟩; rw [HRB.out]; have HB1 := hide hb1; have HK1 := hide hkd; clear hb1 hp hkd)
  go_ret
  exact ⟨rfl, HB1.out, (fun g C q => HK1.out g C (q.below HBW.out)), fun s' hs' => by cases hs'⟩
 ·have HRB : Hid (blB h cl G (lnP fn kd st nm ot n) = true) := by unfold Hid; rw [hln]; exact hb
  rw [if_pos rfl]
  clear hb hln
  have HX : Hid (BX (w.alloc (.cells #[.int .i64 kd, .bool st, .string nm, .string ot, .int .i64 n, .slice p m c, .int .i64 ln] 38)) w.heap.size #[.int .i64 kd, .bool st, .string nm, .string ot, .int .i64 n, .slice p m c, .int .i64 ln] 38) := BX.new w _ rfl _ _
  have HBD := hide (hD.below (bel1 w (.cells #[.int .i64 kd, .bool st, .string nm, .string ot, .int .i64 n, .slice p m c, .int .i64 ln] 38)))
  have HB : Hid (Below N w0 (w.alloc (.cells #[.int .i64 kd, .bool st, .string nm, .string ot, .int .i64 n, .slice p m c, .int .i64 ln] 38))) := hB.alloc hD.2.2.2.2.2.2.2 _
  have HBW := hide (bel1 w (.cells #[.int .i64 kd, .bool st, .string nm, .string ot, .int .i64 n, .slice p m c, .int .i64 ln] 38))
  clear hD hB
  go_enter Tryz.func16, Tryz.ntmps16
  go_upto_region 1 with fail
  generalize w.alloc (.cells #[.int .i64 kd, .bool st, .string nm, .string ot, .int .i64 n, .slice p m c, .int .i64 ln] 38) = u at *
  have d0 := HX.out.cell 0 _ rfl
  have d1 := HX.out.cell 1 _ rfl
  have d2 := HX.out.cell 2 _ rfl
  have d3 := HX.out.cell 3 _ rfl
  have d4 := HX.out.cell 4 _ rfl
  have d5 := HX.out.cell 5 _ rfl
  have d6 := HX.out.cell 6 _ rfl
  clear HX
  go_wp2_with (go_at_call 39; refine (HC.out _ HBD.out HB.out).mono ?_; rintro e w1 ⟨rfl, hb1, hkd, hp⟩; rw [HRB.out]; have HB1 := hide hb1; have HK1 := hide hkd; have HP := hide (hp HRB.out); clear hb1 hp hkd)
  go_ret
  refine ⟨rfl, HB1.out, (fun g C q => HK1.out g C (q.below HBW.out)), fun s' hs' => ?_⟩
  obtain ⟨c', hc', hp⟩ := HP.out
  rw [HLN.out] at hc'
  cases hc'
  cases hs'
  exact hp
end Go.Proofs.YtomppblgalepjaaGreatDoor

