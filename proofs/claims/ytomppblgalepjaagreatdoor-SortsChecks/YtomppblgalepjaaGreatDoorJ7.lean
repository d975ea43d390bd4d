/- Texts of this claim, joined: NR1. -/
import Derived.Test.YtomppblgalepjaaGreatDoorJ6
/- The program's reader of lines: a token, a name, a number (layer 15). -/
namespace Go.Proofs.YtomppblgalepjaaGreatDoor
open Go.RowKit Go.Lib
set_option linter.unusedVariables false
theorem drop_at1 {l : List Tk} {i : Nat} {c : Tk} (h : l[i]? = some c) : l.drop i = c :: l.drop (i + 1) := by
 obtain ⟨hi, rfl⟩ := List.getElem?_eq_some_iff.1 h
 exact List.drop_eq_getElem_cons hi
theorem Tryz.sizeTk : (Tryz.prog.info? 129).map (·.size) = some 4 := by kernel_rfl
def noL (ln : Int) : Value := .iface 112 (.agg #[.int .i64 ln])
def lnU (l : List Tk) (i : Nat) : Int := match l[i]? with
 | some t => t.2.2.2
 | none => 0
theorem lnU_at {l : List Tk} {i : Nat} {t : Tk} (h : l[i]? = some t) : lnU l i = t.2.2.2 := by unfold lnU; rw [h]
def Gv (F : Nat) (xs : List Value) (D : Nat) (l : List Tk) (i j : Nat) (v : Value) : Prop := ∀ W, RP D W (l.drop i) → Calls Tryz.prog F (.pointer (some ⟨D, 0, none⟩) :: xs).toArray W fun e w' => e = .returned v ∧ RP D w' (l.drop j) ∧ GB D W w'
def Up (F : Nat) (xs : List Value) (D : Nat) (l : List Tk) (i j : Nat) : Prop := ∀ W, RP D W (l.drop i) → Calls Tryz.prog F (.pointer (some ⟨D, 0, none⟩) :: xs).toArray W fun e w' => e = .panicked [{ v := noL (lnU l j), recovered := false }] ∧ GB D W w'
theorem RP.put4 {D g : Nat} {w : World} {l : List Tk} (h : RP D w l) (hg : D < g) (a b c d : Value) : RP D ((((w.setCell ⟨g, 0, none⟩ a).setCell ⟨g, 1, none⟩ b).setCell ⟨g, 2, none⟩ c).setCell ⟨g, 3, none⟩ d) l := (((h.other hg 0 a).other hg 1 b).other hg 2 c).other hg 3 d
theorem GB.put4 {D g : Nat} {u w : World} (h : GB D u w) (hg : u.heap.size ≤ g) (a b c d : Value) : GB D u ((((w.setCell ⟨g, 0, none⟩ a).setCell ⟨g, 1, none⟩ b).setCell ⟨g, 2, none⟩ c).setCell ⟨g, 3, none⟩ d) := (((h.new g hg 0 a).new g hg 1 b).new g hg 2 c).new g hg 3 d
theorem RP.put7 {D g : Nat} {w : World} {l : List Tk} (h : RP D w l) (hg : D < g) (a b c d e f i : Value) : RP D (((((((w.setCell ⟨g, 0, none⟩ a).setCell ⟨g, 1, none⟩ b).setCell ⟨g, 2, none⟩ c).setCell ⟨g, 3, none⟩ d).setCell ⟨g, 4, none⟩ e).setCell ⟨g, 5, none⟩ f).setCell ⟨g, 6, none⟩ i) l := ((((((h.other hg 0 a).other hg 1 b).other hg 2 c).other hg 3 d).other hg 4 e).other hg 5 f).other hg 6 i
theorem GB.put7 {D g : Nat} {u w : World} (h : GB D u w) (hg : u.heap.size ≤ g) (a b c d e f i : Value) : GB D u (((((((w.setCell ⟨g, 0, none⟩ a).setCell ⟨g, 1, none⟩ b).setCell ⟨g, 2, none⟩ c).setCell ⟨g, 3, none⟩ d).setCell ⟨g, 4, none⟩ e).setCell ⟨g, 5, none⟩ f).setCell ⟨g, 6, none⟩ i) := ((((((h.new g hg 0 a).new g hg 1 b).new g hg 2 c).new g hg 3 d).new g hg 4 e).new g hg 5 f).new g hg 6 i
set_option maxHeartbeats 2000000 in
theorem nextP {D : Nat} {l : List Tk} {i : Nat} {kd : Int} {tx : ByteArray} {nn ln : Int} (ht : l[i]? = some (kd, tx, nn, ln)) : Gv 84 [] D l i (i + 1) (.agg #[.int .i64 kd, .string tx, .int .i64 nn, .int .i64 ln]) := by
 intro w hr
 rw [drop_at1 ht] at hr
 generalize l.drop (i + 1) = r at *
 clear ht
 have bq0 := bel1 w (.cells #[.int .i64 0, .string ⟨#[]⟩, .int .i64 0, .int .i64 0] 129)
 have HB : Hid (GB D w (w.alloc (.cells #[.int .i64 0, .string ⟨#[]⟩, .int .i64 0, .int .i64 0] 129))) := GB.below D bq0
 have HG : Hid (BX (w.alloc (.cells #[.int .i64 0, .string ⟨#[]⟩, .int .i64 0, .int .i64 0] 129)) w.heap.size #[.int .i64 0, .string ⟨#[]⟩, .int .i64 0, .int .i64 0] 129) := BX.new w _ rfl _ _
 have HR := hide (hr.below bq0)
 have hD := hr.size
 clear hr bq0
 obtain ⟨g, hg⟩ : ∃ g, w.heap.size = g := ⟨_, rfl⟩
 have hgD : D < g := by omega
 go_enter Tryz.func84, Tryz.ntmps84
 go_upto_region 1 with fail
 rw [hg] at HG
 have hg1 : w.heap.size ≤ g := by omega
 generalize w.alloc (.cells #[.int .i64 0, .string ⟨#[]⟩, .int .i64 0, .int .i64 0] 129) = w1 at *
 obtain ⟨b, off, c, hx, k0, k1, k2, k3, c1, c2, hbD⟩ := HR.out.head
 have x0 := hx.cell 0 _ rfl
 have HX := hide hx
 clear hx
 obtain ⟨n, hn⟩ : ∃ n, r.length = n := ⟨_, rfl⟩
 rw [hn] at x0 HX c1
 have hn0 : (0 : Int) < ((n + 1 : Nat) : Int) := by omega
 go_upto_region 2 with fail
 have bq1 := bel1 w1 (.cells #[.int .i64 kd, .string tx, .int .i64 nn, .int .i64 ln] 129)
 replace HB := hide (HB.out.next bq1)
 have HT : Hid (BX (w1.alloc (.cells #[.int .i64 kd, .string tx, .int .i64 nn, .int .i64 ln] 129)) w1.heap.size #[.int .i64 kd, .string tx, .int .i64 nn, .int .i64 ln] 129) := BX.new w1 _ rfl _ _
 replace HG := hide (HG.out.below bq1)
 replace HX := hide (HX.out.below bq1)
 have HK := hide (HR.out.below bq1)
 clear HR bq1 k0 k1 k2 k3 x0 hn0
 obtain ⟨g2, hg2⟩ : ∃ g, w1.heap.size = g := ⟨_, rfl⟩
 have hg2w : w.heap.size ≤ g2 := by have := HB.out.1; simp at this; have h9 := HG.out.size; simp at h9; omega
 rw [hg2] at HT ⊢
 clear hg2
 generalize w1.alloc (.cells #[.int .i64 kd, .string tx, .int .i64 nn, .int .i64 ln] 129) = w2 at *
 have x0 := HX.out.cell 0 _ rfl
 have y0 := HX.out.free 0
 have hc0 : (1 : Int) ≤ ((n + 1 : Nat) : Int) := by omega
 have hc1 : ((n + 1 : Nat) : Int) ≤ (c : Int) := by omega
 go_upto_region 3 with fail
 subst hn
 obtain ⟨A, hA⟩ : ∃ A : Option Addr, (if c = 1 then (some ⟨b, off, none⟩ : Option Addr) else some ⟨b, off + 4, none⟩) = A := ⟨_, rfl⟩
 have HK2 := hide (HK.out.tail HX.out c1 hA.symm)
 rw [hA]
 have hne : D ≠ g := by omega
 have hne2 : D ≠ g2 := by omega
 replace HG := hide (HG.out.other hne 0 (.slice A r.length (c - 1)))
 replace HT := hide (HT.out.other hne2 0 (.slice A r.length (c - 1)))
 replace HB := hide (HB.out.set 0 (.slice A r.length (c - 1)))
 clear HX HK x0 y0 hA hc0 hc1 c1 c2
 generalize w2.setCell ⟨D, 0, none⟩ (.slice A r.length (c - 1)) = w3 at *
 have t0 := HT.out.cell 0 _ rfl
 have t1 := HT.out.cell 1 _ rfl
 have t2 := HT.out.cell 2 _ rfl
 have t3 := HT.out.cell 3 _ rfl
 have z0 := HG.out.cell 0 _ rfl
 have y0 := HG.out.free 0
 have z1 := HG.out.cell 1 _ rfl
 have y1 := HG.out.free 1
 have z2 := HG.out.cell 2 _ rfl
 have y2 := HG.out.free 2
 have z3 := HG.out.cell 3 _ rfl
 have y3 := HG.out.free 3
 go_wp2
 refine bodyPost_ret (results_cell_row rfl _ _ _ _ _ _ _ rfl (HG.out.put4 _ _ _ _) Tryz.underlying129 rfl Tryz.sizeTk) rfl ?_
 exact ⟨rfl, HK2.out.put4 hgD _ _ _ _, HB.out.put4 hg1 _ _ _ _⟩
set_option maxHeartbeats 2000000 in
theorem must_ok {D : Nat} {l : List Tk} {i : Nat} {kd : Int} {tx : ByteArray} {nn ln : Int} (ht : l[i]? = some (kd, tx, nn, ln)) (k : Int) (hk : kd = k) : Gv 103 [.int .i64 k] D l i (i + 1) (.agg #[.int .i64 kd, .string tx, .int .i64 nn, .int .i64 ln]) := by
 intro w hr
 have HN := hide (nextP (D := D) ht)
 subst hk
 have bq0 := bel1 w (.cells #[.int .i64 0, .string ⟨#[]⟩, .int .i64 0, .int .i64 0] 129)
 have HB : Hid (GB D w (w.alloc (.cells #[.int .i64 0, .string ⟨#[]⟩, .int .i64 0, .int .i64 0] 129))) := GB.below D bq0
 have HG : Hid (BX (w.alloc (.cells #[.int .i64 0, .string ⟨#[]⟩, .int .i64 0, .int .i64 0] 129)) w.heap.size #[.int .i64 0, .string ⟨#[]⟩, .int .i64 0, .int .i64 0] 129) := BX.new w _ rfl _ _
 have HR := hide (hr.below bq0)
 have hD := hr.size
 clear hr bq0 ht
 obtain ⟨g, hg⟩ : ∃ g, w.heap.size = g := ⟨_, rfl⟩
 have hgD : D < g := by omega
 have hne : g ≠ D := by omega
 go_enter Tryz.func103, Tryz.ntmps103
 go_upto_region 1 with fail
 rw [hg] at HG
 have hg1 : w.heap.size ≤ g := by omega
 generalize w.alloc (.cells #[.int .i64 0, .string ⟨#[]⟩, .int .i64 0, .int .i64 0] 129) = w1 at *
 go_upto_region 2 with (go_at_call 84; refine (HN.out _ HR.out).mono ?_; rintro e w2 ⟨rfl, hr2, hb2⟩; replace HR := hide hr2; replace HB := hide (HB.out.trans hb2); replace HG := hide (HG.out.gb hb2 hne); clear hr2 hb2)
 have bq1 := bel1 w2 (.cells #[.int .i64 kd, .string tx, .int .i64 nn, .int .i64 ln] 129)
 have HT : Hid (BX (w2.alloc (.cells #[.int .i64 kd, .string tx, .int .i64 nn, .int .i64 ln] 129)) w2.heap.size #[.int .i64 kd, .string tx, .int .i64 nn, .int .i64 ln] 129) := BX.new w2 _ rfl _ _
 replace HG := hide (HG.out.below bq1)
 replace HR := hide (HR.out.below bq1)
 have hgw := HB.out.1
 have hD2 := HR.out.size
 replace HB := hide (HB.out.next bq1)
 clear bq1
 obtain ⟨g2, hg2⟩ : ∃ g, w2.heap.size = g := ⟨_, rfl⟩
 have hg2w : w.heap.size ≤ g2 := by omega
 rw [hg2] at HT ⊢
 clear hg2 hD2 hgw
 generalize w2.alloc (.cells #[.int .i64 kd, .string tx, .int .i64 nn, .int .i64 ln] 129) = w3 at *
 have t0 := HT.out.cell 0 _ rfl
 have t1 := HT.out.cell 1 _ rfl
 have t2 := HT.out.cell 2 _ rfl
 have t3 := HT.out.cell 3 _ rfl
 have z0 := HG.out.cell 0 _ rfl
 have y0 := HG.out.free 0
 have z1 := HG.out.cell 1 _ rfl
 have y1 := HG.out.free 1
 have z2 := HG.out.cell 2 _ rfl
 have y2 := HG.out.free 2
 have z3 := HG.out.cell 3 _ rfl
 have y3 := HG.out.free 3
 go_wp2
 refine bodyPost_ret (results_cell_row rfl _ _ _ _ _ _ _ rfl (HG.out.put4 _ _ _ _) Tryz.underlying129 rfl Tryz.sizeTk) rfl ?_
 exact ⟨rfl, HR.out.put4 hgD _ _ _ _, HB.out.put4 hg1 _ _ _ _⟩
set_option maxHeartbeats 2000000 in
theorem must_no {D : Nat} {l : List Tk} {i : Nat} {kd : Int} {tx : ByteArray} {nn ln : Int} (ht : l[i]? = some (kd, tx, nn, ln)) (k : Int) (hk : kd ≠ k) : Up 103 [.int .i64 k] D l i i := by
 intro w hr
 have HN := hide (nextP (D := D) ht)
 rw [lnU_at ht]
 have bq0 := bel1 w (.cells #[.int .i64 0, .string ⟨#[]⟩, .int .i64 0, .int .i64 0] 129)
 have HB : Hid (GB D w (w.alloc (.cells #[.int .i64 0, .string ⟨#[]⟩, .int .i64 0, .int .i64 0] 129))) := GB.below D bq0
 have HG : Hid (BX (w.alloc (.cells #[.int .i64 0, .string ⟨#[]⟩, .int .i64 0, .int .i64 0] 129)) w.heap.size #[.int .i64 0, .string ⟨#[]⟩, .int .i64 0, .int .i64 0] 129) := BX.new w _ rfl _ _
 have HR := hide (hr.below bq0)
 have hD := hr.size
 clear hr bq0 ht
 obtain ⟨g, hg⟩ : ∃ g, w.heap.size = g := ⟨_, rfl⟩
 have hgD : D < g := by omega
 have hne : g ≠ D := by omega
 go_enter Tryz.func103, Tryz.ntmps103
 go_upto_region 1 with fail
 rw [hg] at HG
 have hg1 : w.heap.size ≤ g := by omega
 generalize w.alloc (.cells #[.int .i64 0, .string ⟨#[]⟩, .int .i64 0, .int .i64 0] 129) = w1 at *
 go_upto_region 2 with (go_at_call 84; refine (HN.out _ HR.out).mono ?_; rintro e w2 ⟨rfl, hr2, hb2⟩; replace HR := hide hr2; replace HB := hide (HB.out.trans hb2); replace HG := hide (HG.out.gb hb2 hne); clear hr2 hb2)
 have bq1 := bel1 w2 (.cells #[.int .i64 kd, .string tx, .int .i64 nn, .int .i64 ln] 129)
 have HT : Hid (BX (w2.alloc (.cells #[.int .i64 kd, .string tx, .int .i64 nn, .int .i64 ln] 129)) w2.heap.size #[.int .i64 kd, .string tx, .int .i64 nn, .int .i64 ln] 129) := BX.new w2 _ rfl _ _
 replace HG := hide (HG.out.below bq1)
 replace HR := hide (HR.out.below bq1)
 have hgw := HB.out.1
 have hD2 := HR.out.size
 replace HB := hide (HB.out.next bq1)
 clear bq1
 obtain ⟨g2, hg2⟩ : ∃ g, w2.heap.size = g := ⟨_, rfl⟩
 have hg2w : w.heap.size ≤ g2 := by omega
 rw [hg2] at HT ⊢
 clear hg2 hD2 hgw
 generalize w2.alloc (.cells #[.int .i64 kd, .string tx, .int .i64 nn, .int .i64 ln] 129) = w3 at *
 have t0 := HT.out.cell 0 _ rfl
 have t1 := HT.out.cell 1 _ rfl
 have t2 := HT.out.cell 2 _ rfl
 have t3 := HT.out.cell 3 _ rfl
 go_wp2
 exact ⟨rfl, rfl, HB.out⟩
set_option maxRecDepth 4000 in
set_option maxHeartbeats 4000000 in
theorem KeptP15 (s : ByteArray) (w : World) : Calls Tryz.prog 87 #[.string s] w fun e w' => e = .returned (.bool (keptB s)) ∧ w' = w := by
 have q0 : (s.toList == [115, 101, 116]) = decide (s = ⟨#[115, 101, 116]⟩) := by
  have q := eqK s ⟨#[115, 101, 116]⟩
  rw [ByteArray.toList_eq ⟨#[115, 101, 116]⟩] at q
  exact q
 by_cases h0 : s = ⟨#[115, 101, 116]⟩
 ·rw [decide_eq_true h0] at q0
  have HK : Hid (keptB s = true) := by unfold Hid; rw [h0]; decide
  clear h0
  go_enter Tryz.func87, Tryz.ntmps87
  go_wp2
  go_ret
  exact ⟨by rw [HK.out]; rfl, rfl⟩
 rw [decide_eq_false h0] at q0
 have q1 : (s.toList == [99, 111, 117, 110, 116]) = decide (s = ⟨#[99, 111, 117, 110, 116]⟩) := by
  have q := eqK s ⟨#[99, 111, 117, 110, 116]⟩
  rw [ByteArray.toList_eq ⟨#[99, 111, 117, 110, 116]⟩] at q
  exact q
 by_cases h1 : s = ⟨#[99, 111, 117, 110, 116]⟩
 ·rw [decide_eq_true h1] at q1
  have HK : Hid (keptB s = true) := by unfold Hid; rw [h1]; decide
  clear h0 h1
  go_enter Tryz.func87, Tryz.ntmps87
  go_wp2
  go_ret
  exact ⟨by rw [HK.out]; rfl, rfl⟩
 rw [decide_eq_false h1] at q1
 have q2 : (s.toList == [110, 111, 116, 101]) = decide (s = ⟨#[110, 111, 116, 101]⟩) := by
  have q := eqK s ⟨#[110, 111, 116, 101]⟩
  rw [ByteArray.toList_eq ⟨#[110, 111, 116, 101]⟩] at q
  exact q
 by_cases h2 : s = ⟨#[110, 111, 116, 101]⟩
 ·rw [decide_eq_true h2] at q2
  have HK : Hid (keptB s = true) := by unfold Hid; rw [h2]; decide
  clear h0 h1 h2
  go_enter Tryz.func87, Tryz.ntmps87
  go_wp2
  go_ret
  exact ⟨by rw [HK.out]; rfl, rfl⟩
 rw [decide_eq_false h2] at q2
 have q3 : (s.toList == [114, 117, 108, 101]) = decide (s = ⟨#[114, 117, 108, 101]⟩) := by
  have q := eqK s ⟨#[114, 117, 108, 101]⟩
  rw [ByteArray.toList_eq ⟨#[114, 117, 108, 101]⟩] at q
  exact q
 by_cases h3 : s = ⟨#[114, 117, 108, 101]⟩
 ·rw [decide_eq_true h3] at q3
  have HK : Hid (keptB s = true) := by unfold Hid; rw [h3]; decide
  clear h0 h1 h2 h3
  go_enter Tryz.func87, Tryz.ntmps87
  go_wp2
  go_ret
  exact ⟨by rw [HK.out]; rfl, rfl⟩
 rw [decide_eq_false h3] at q3
 have q4 : (s.toList == [111, 112]) = decide (s = ⟨#[111, 112]⟩) := by
  have q := eqK s ⟨#[111, 112]⟩
  rw [ByteArray.toList_eq ⟨#[111, 112]⟩] at q
  exact q
 by_cases h4 : s = ⟨#[111, 112]⟩
 ·rw [decide_eq_true h4] at q4
  have HK : Hid (keptB s = true) := by unfold Hid; rw [h4]; decide
  clear h0 h1 h2 h3 h4
  go_enter Tryz.func87, Tryz.ntmps87
  go_wp2
  go_ret
  exact ⟨by rw [HK.out]; rfl, rfl⟩
 rw [decide_eq_false h4] at q4
 have q5 : (s.toList == [115, 116, 114, 105, 99, 116]) = decide (s = ⟨#[115, 116, 114, 105, 99, 116]⟩) := by
  have q := eqK s ⟨#[115, 116, 114, 105, 99, 116]⟩
  rw [ByteArray.toList_eq ⟨#[115, 116, 114, 105, 99, 116]⟩] at q
  exact q
 by_cases h5 : s = ⟨#[115, 116, 114, 105, 99, 116]⟩
 ·rw [decide_eq_true h5] at q5
  have HK : Hid (keptB s = true) := by unfold Hid; rw [h5]; decide
  clear h0 h1 h2 h3 h4 h5
  go_enter Tryz.func87, Tryz.ntmps87
  go_wp2
  go_ret
  exact ⟨by rw [HK.out]; rfl, rfl⟩
 rw [decide_eq_false h5] at q5
 have q6 : (s.toList == [114, 101, 102]) = decide (s = ⟨#[114, 101, 102]⟩) := by
  have q := eqK s ⟨#[114, 101, 102]⟩
  rw [ByteArray.toList_eq ⟨#[114, 101, 102]⟩] at q
  exact q
 by_cases h6 : s = ⟨#[114, 101, 102]⟩
 ·rw [decide_eq_true h6] at q6
  have HK : Hid (keptB s = true) := by unfold Hid; rw [h6]; decide
  clear h0 h1 h2 h3 h4 h5 h6
  go_enter Tryz.func87, Tryz.ntmps87
  go_wp2
  go_ret
  exact ⟨by rw [HK.out]; rfl, rfl⟩
 rw [decide_eq_false h6] at q6
 have q7 : (s.toList == [98, 111, 116, 104]) = decide (s = ⟨#[98, 111, 116, 104]⟩) := by
  have q := eqK s ⟨#[98, 111, 116, 104]⟩
  rw [ByteArray.toList_eq ⟨#[98, 111, 116, 104]⟩] at q
  exact q
 by_cases h7 : s = ⟨#[98, 111, 116, 104]⟩
 ·rw [decide_eq_true h7] at q7
  have HK : Hid (keptB s = true) := by unfold Hid; rw [h7]; decide
  clear h0 h1 h2 h3 h4 h5 h6 h7
  go_enter Tryz.func87, Tryz.ntmps87
  go_wp2
  go_ret
  exact ⟨by rw [HK.out]; rfl, rfl⟩
 rw [decide_eq_false h7] at q7
 have q8 : (s.toList == [108, 105, 109, 105, 116]) = decide (s = ⟨#[108, 105, 109, 105, 116]⟩) := by
  have q := eqK s ⟨#[108, 105, 109, 105, 116]⟩
  rw [ByteArray.toList_eq ⟨#[108, 105, 109, 105, 116]⟩] at q
  exact q
 by_cases h8 : s = ⟨#[108, 105, 109, 105, 116]⟩
 ·rw [decide_eq_true h8] at q8
  have HK : Hid (keptB s = true) := by unfold Hid; rw [h8]; decide
  clear h0 h1 h2 h3 h4 h5 h6 h7 h8
  go_enter Tryz.func87, Tryz.ntmps87
  go_wp2
  go_ret
  exact ⟨by rw [HK.out]; rfl, rfl⟩
 rw [decide_eq_false h8] at q8
 have q9 : (s.toList == [109, 111, 115, 116]) = decide (s = ⟨#[109, 111, 115, 116]⟩) := by
  have q := eqK s ⟨#[109, 111, 115, 116]⟩
  rw [ByteArray.toList_eq ⟨#[109, 111, 115, 116]⟩] at q
  exact q
 by_cases h9 : s = ⟨#[109, 111, 115, 116]⟩
 ·rw [decide_eq_true h9] at q9
  have HK : Hid (keptB s = true) := by unfold Hid; rw [h9]; decide
  clear h0 h1 h2 h3 h4 h5 h6 h7 h8 h9
  go_enter Tryz.func87, Tryz.ntmps87
  go_wp2
  go_ret
  exact ⟨by rw [HK.out]; rfl, rfl⟩
 rw [decide_eq_false h9] at q9
 have q10 : (s.toList == [108, 101, 97, 115, 116]) = decide (s = ⟨#[108, 101, 97, 115, 116]⟩) := by
  have q := eqK s ⟨#[108, 101, 97, 115, 116]⟩
  rw [ByteArray.toList_eq ⟨#[108, 101, 97, 115, 116]⟩] at q
  exact q
 by_cases h10 : s = ⟨#[108, 101, 97, 115, 116]⟩
 ·rw [decide_eq_true h10] at q10
  have HK : Hid (keptB s = true) := by unfold Hid; rw [h10]; decide
  clear h0 h1 h2 h3 h4 h5 h6 h7 h8 h9 h10
  go_enter Tryz.func87, Tryz.ntmps87
  go_wp2
  go_ret
  exact ⟨by rw [HK.out]; rfl, rfl⟩
 rw [decide_eq_false h10] at q10
 have q11 : (s.toList == [110, 101, 101, 100, 115]) = decide (s = ⟨#[110, 101, 101, 100, 115]⟩) := by
  have q := eqK s ⟨#[110, 101, 101, 100, 115]⟩
  rw [ByteArray.toList_eq ⟨#[110, 101, 101, 100, 115]⟩] at q
  exact q
 by_cases h11 : s = ⟨#[110, 101, 101, 100, 115]⟩
 ·rw [decide_eq_true h11] at q11
  have HK : Hid (keptB s = true) := by unfold Hid; rw [h11]; decide
  clear h0 h1 h2 h3 h4 h5 h6 h7 h8 h9 h10 h11
  go_enter Tryz.func87, Tryz.ntmps87
  go_wp2
  go_ret
  exact ⟨by rw [HK.out]; rfl, rfl⟩
 rw [decide_eq_false h11] at q11
 have q12 : (s.toList == [97, 100, 100]) = decide (s = ⟨#[97, 100, 100]⟩) := by
  have q := eqK s ⟨#[97, 100, 100]⟩
  rw [ByteArray.toList_eq ⟨#[97, 100, 100]⟩] at q
  exact q
 by_cases h12 : s = ⟨#[97, 100, 100]⟩
 ·rw [decide_eq_true h12] at q12
  have HK : Hid (keptB s = true) := by unfold Hid; rw [h12]; decide
  clear h0 h1 h2 h3 h4 h5 h6 h7 h8 h9 h10 h11 h12
  go_enter Tryz.func87, Tryz.ntmps87
  go_wp2
  go_ret
  exact ⟨by rw [HK.out]; rfl, rfl⟩
 rw [decide_eq_false h12] at q12
 have q13 : (s.toList == [100, 114, 111, 112]) = decide (s = ⟨#[100, 114, 111, 112]⟩) := by
  have q := eqK s ⟨#[100, 114, 111, 112]⟩
  rw [ByteArray.toList_eq ⟨#[100, 114, 111, 112]⟩] at q
  exact q
 by_cases h13 : s = ⟨#[100, 114, 111, 112]⟩
 ·rw [decide_eq_true h13] at q13
  have HK : Hid (keptB s = true) := by unfold Hid; rw [h13]; decide
  clear h0 h1 h2 h3 h4 h5 h6 h7 h8 h9 h10 h11 h12 h13
  go_enter Tryz.func87, Tryz.ntmps87
  go_wp2
  go_ret
  exact ⟨by rw [HK.out]; rfl, rfl⟩
 rw [decide_eq_false h13] at q13
 have q14 : (s.toList == [117, 112]) = decide (s = ⟨#[117, 112]⟩) := by
  have q := eqK s ⟨#[117, 112]⟩
  rw [ByteArray.toList_eq ⟨#[117, 112]⟩] at q
  exact q
 by_cases h14 : s = ⟨#[117, 112]⟩
 ·rw [decide_eq_true h14] at q14
  have HK : Hid (keptB s = true) := by unfold Hid; rw [h14]; decide
  clear h0 h1 h2 h3 h4 h5 h6 h7 h8 h9 h10 h11 h12 h13 h14
  go_enter Tryz.func87, Tryz.ntmps87
  go_wp2
  go_ret
  exact ⟨by rw [HK.out]; rfl, rfl⟩
 rw [decide_eq_false h14] at q14
 have q15 : (s.toList == [100, 111, 119, 110]) = decide (s = ⟨#[100, 111, 119, 110]⟩) := by
  have q := eqK s ⟨#[100, 111, 119, 110]⟩
  rw [ByteArray.toList_eq ⟨#[100, 111, 119, 110]⟩] at q
  exact q
 by_cases h15 : s = ⟨#[100, 111, 119, 110]⟩
 ·rw [decide_eq_true h15] at q15
  have HK : Hid (keptB s = true) := by unfold Hid; rw [h15]; decide
  clear h0 h1 h2 h3 h4 h5 h6 h7 h8 h9 h10 h11 h12 h13 h14 h15
  go_enter Tryz.func87, Tryz.ntmps87
  go_wp2
  go_ret
  exact ⟨by rw [HK.out]; rfl, rfl⟩
 rw [decide_eq_false h15] at q15
 have q16 : (s.toList == [112, 117, 116]) = decide (s = ⟨#[112, 117, 116]⟩) := by
  have q := eqK s ⟨#[112, 117, 116]⟩
  rw [ByteArray.toList_eq ⟨#[112, 117, 116]⟩] at q
  exact q
 by_cases h16 : s = ⟨#[112, 117, 116]⟩
 ·rw [decide_eq_true h16] at q16
  have HK : Hid (keptB s = true) := by unfold Hid; rw [h16]; decide
  clear h0 h1 h2 h3 h4 h5 h6 h7 h8 h9 h10 h11 h12 h13 h14 h15 h16
  go_enter Tryz.func87, Tryz.ntmps87
  go_wp2
  go_ret
  exact ⟨by rw [HK.out]; rfl, rfl⟩
 rw [decide_eq_false h16] at q16
 have HK : Hid (keptB s = false) := by
  unfold Hid
  unfold keptB
  rw [List.any_eq_false]
  intro x hx hs
  rw [decide_eq_true_iff] at hs
  subst hs
  simp only [keptL, List.mem_cons, List.not_mem_nil, or_false] at hx
  rcases hx with h | h | h | h | h | h | h | h | h | h | h | h | h | h | h | h | h
  ·exact h0 h
  ·exact h1 h
  ·exact h2 h
  ·exact h3 h
  ·exact h4 h
  ·exact h5 h
  ·exact h6 h
  ·exact h7 h
  ·exact h8 h
  ·exact h9 h
  ·exact h10 h
  ·exact h11 h
  ·exact h12 h
  ·exact h13 h
  ·exact h14 h
  ·exact h15 h
  ·exact h16 h
 clear h0 h1 h2 h3 h4 h5 h6 h7 h8 h9 h10 h11 h12 h13 h14 h15 h16
 go_enter Tryz.func87, Tryz.ntmps87
 go_wp2
 go_ret
 exact ⟨by rw [HK.out]; rfl, rfl⟩
theorem fieldN (tx : ByteArray) (nn ln : Int) (w : World) : (Instr.field 129 (.agg #[.int .i64 2, .string tx, .int .i64 nn, .int .i64 ln]) 2).run Tryz.prog w = .ok (.int .i64 nn) w := by kernel_rfl
theorem tk_at {l : List Tk} {i : Nat} {k : Int} (h : isU l i k = true) : ∃ tx nn ln, l[i]? = some (k, tx, nn, ln) := by
 unfold isU at h
 split at h
 ·rename_i t ht
  obtain ⟨kd, tx, nn, ln⟩ := t
  rw [decide_eq_true_iff] at h
  cases h
  exact ⟨tx, nn, ln, ht⟩
 ·cases h
theorem nam_tk {l : List Tk} {i : Nat} (h : namU l i = true) : ∃ tx nn ln, l[i]? = some (1, tx, nn, ln) ∧ keptB tx = false ∧ txtU l i = tx := by
 rw [namU_is, Bool.and_eq_true] at h
 obtain ⟨tx, nn, ln, ht⟩ := tk_at h.1
 have e : txtU l i = tx := by rw [txtU_at ht]; rfl
 have q := h.2
 rw [e] at q
 exact ⟨tx, nn, ln, ht, by simpa using q, e⟩
set_option maxHeartbeats 2000000 in
theorem name_ok {D : Nat} {l : List Tk} {i : Nat} (h : namU l i = true) : Gv 101 [] D l i (i + 1) (.string (txtU l i)) := by
 obtain ⟨tx, nn, ln, ht, hk, e⟩ := nam_tk h
 rw [e]
 have HN := hide (must_ok (D := D) ht 1 rfl)
 have HK := hide (fun W => KeptP15 tx W)
 rw [hk] at HK
 clear h e hk ht
 intro w hr
 have HB : Hid (GB D w w) := GB.refl D w
 have HR := hide hr
 clear hr
 go_enter Tryz.func101, Tryz.ntmps101
 go_upto_region 2 with (go_at_call 103; refine (HN.out _ HR.out).mono ?_; rintro e w2 ⟨rfl, hr2, hb2⟩; replace HR := hide hr2; replace HB := hide (HB.out.trans hb2); clear hr2 hb2)
 have bq1 := bel1 w2 (.cells #[.int .i64 1, .string tx, .int .i64 nn, .int .i64 ln] 129)
 have HT : Hid (BX (w2.alloc (.cells #[.int .i64 1, .string tx, .int .i64 nn, .int .i64 ln] 129)) w2.heap.size #[.int .i64 1, .string tx, .int .i64 nn, .int .i64 ln] 129) := BX.new w2 _ rfl _ _
 replace HR := hide (HR.out.below bq1)
 have hgw := HB.out.1
 have hD2 := HR.out.size
 replace HB := hide (HB.out.next bq1)
 clear bq1
 obtain ⟨g2, hg2⟩ : ∃ g, w2.heap.size = g := ⟨_, rfl⟩
 have hg2w : w.heap.size ≤ g2 := by omega
 rw [hg2] at HT ⊢
 clear hg2 hD2 hgw
 generalize w2.alloc (.cells #[.int .i64 1, .string tx, .int .i64 nn, .int .i64 ln] 129) = w3 at *
 have t0 := HT.out.cell 0 _ rfl
 have t1 := HT.out.cell 1 _ rfl
 have t2 := HT.out.cell 2 _ rfl
 have t3 := HT.out.cell 3 _ rfl
 go_wp2_with (go_at_call 87; refine (HK.out _).mono ?_; rintro e wi ⟨rfl, hw9⟩; have hw8 := hw9.symm; subst hw8; clear hw9)
 go_ret
 exact ⟨rfl, HR.out, HB.out⟩
set_option maxHeartbeats 2000000 in
theorem name_no {D : Nat} {l : List Tk} {i : Nat} {t : Tk} (ht : l[i]? = some t) (h : namU l i = false) : Up 101 [] D l i i := by
 obtain ⟨kd, tx, nn, ln⟩ := t
 rw [namU_is, isU_at ht] at h
 by_cases h1 : kd = 1
 ·subst h1
  have e : txtU l i = tx := by rw [txtU_at ht]; rfl
  rw [e] at h
  have hk : keptB tx = true := by simpa using h
  have HN := hide (must_ok (D := D) ht 1 rfl)
  have HK := hide (fun W => KeptP15 tx W)
  rw [hk] at HK
  have HL : Hid (lnU l i = ln) := lnU_at ht
  clear h e hk ht
  intro w hr
  have HB : Hid (GB D w w) := GB.refl D w
  have HR := hide hr
  clear hr
  rw [HL.out]
  go_enter Tryz.func101, Tryz.ntmps101
  go_upto_region 2 with (go_at_call 103; refine (HN.out _ HR.out).mono ?_; rintro e w2 ⟨rfl, hr2, hb2⟩; replace HR := hide hr2; replace HB := hide (HB.out.trans hb2); clear hr2 hb2)
  have bq1 := bel1 w2 (.cells #[.int .i64 1, .string tx, .int .i64 nn, .int .i64 ln] 129)
  have HT : Hid (BX (w2.alloc (.cells #[.int .i64 1, .string tx, .int .i64 nn, .int .i64 ln] 129)) w2.heap.size #[.int .i64 1, .string tx, .int .i64 nn, .int .i64 ln] 129) := BX.new w2 _ rfl _ _
  replace HR := hide (HR.out.below bq1)
  have hgw := HB.out.1
  have hD2 := HR.out.size
  replace HB := hide (HB.out.next bq1)
  clear bq1
  obtain ⟨g2, hg2⟩ : ∃ g, w2.heap.size = g := ⟨_, rfl⟩
  have hg2w : w.heap.size ≤ g2 := by omega
  rw [hg2] at HT ⊢
  clear hg2 hD2 hgw
  generalize w2.alloc (.cells #[.int .i64 1, .string tx, .int .i64 nn, .int .i64 ln] 129) = w3 at *
  have t0 := HT.out.cell 0 _ rfl
  have t1 := HT.out.cell 1 _ rfl
  have t2 := HT.out.cell 2 _ rfl
  have t3 := HT.out.cell 3 _ rfl
  go_wp2_with (go_at_call 87; refine (HK.out _).mono ?_; rintro e wi ⟨rfl, hw9⟩; have hw8 := hw9.symm; subst hw8; clear hw9)
  exact ⟨rfl, rfl, HB.out⟩
 ·have HN := hide (must_no (D := D) ht 1 h1)
  clear h ht
  intro w hr
  have HB : Hid (GB D w w) := GB.refl D w
  have HR := hide hr
  clear hr
  go_enter Tryz.func101, Tryz.ntmps101
  go_wp2_with (go_at_call 103; refine (HN.out _ HR.out).mono ?_; rintro e w2 ⟨rfl, hb2⟩; replace HB := hide (HB.out.trans hb2); clear hb2)
  exact ⟨rfl, rfl, HB.out⟩
set_option maxHeartbeats 2000000 in
theorem number_ok {D : Nat} {l : List Tk} {i : Nat} (h : isU l i 2 = true) : Gv 114 [] D l i (i + 1) (.int .i64 (numU l i)) := by
 obtain ⟨tx, nn, ln, ht⟩ := tk_at h
 have e : numU l i = nn := by unfold numU; rw [ht]
 rw [e]
 have HN := hide (must_ok (D := D) ht 2 rfl)
 clear h e ht
 have hfl := fun W => fieldN tx nn ln W
 intro w hr
 have HB : Hid (GB D w w) := GB.refl D w
 have HR := hide hr
 clear hr
 go_enter Tryz.func114, Tryz.ntmps114
 go_wp2_with (go_at_call 103; refine (HN.out _ HR.out).mono ?_; rintro e w2 ⟨rfl, hr2, hb2⟩; replace HR := hide hr2; replace HB := hide (HB.out.trans hb2); clear hr2 hb2)
 go_ret
 exact ⟨rfl, HR.out, HB.out⟩
set_option maxHeartbeats 2000000 in
theorem number_no {D : Nat} {l : List Tk} {i : Nat} {t : Tk} (ht : l[i]? = some t) (h : isU l i 2 = false) : Up 114 [] D l i i := by
 obtain ⟨kd, tx, nn, ln⟩ := t
 rw [isU_at ht, decide_eq_false_iff_not] at h
 have HN := hide (must_no (D := D) ht 2 h)
 clear h ht
 intro w hr
 have HB : Hid (GB D w w) := GB.refl D w
 have HR := hide hr
 clear hr
 go_enter Tryz.func114, Tryz.ntmps114
 go_wp2_with (go_at_call 103; refine (HN.out _ HR.out).mono ?_; rintro e w2 ⟨rfl, hb2⟩; replace HB := hide (HB.out.trans hb2); clear hb2)
 exact ⟨rfl, rfl, HB.out⟩
end Go.Proofs.YtomppblgalepjaaGreatDoor

