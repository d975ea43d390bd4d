/- Texts of this claim, joined: OC. -/
import Derived.Laws.Tables
import Derived.Test.YtomppblgalepjaaGreatDoorJ20
/- What was seen of rules: the program's box and its three maps (layer 16). -/
namespace Go.Proofs.YtomppblgalepjaaGreatDoor
open Go.RowKit Go.Lib
set_option linter.unusedVariables false
def GQ (n D : Nat) (w w' : World) : Prop := w.heap.size ≤ w'.heap.size ∧ (∀ g, g < w.heap.size → (g < D ∨ D + n ≤ g) → w'.heap[g]? = w.heap[g]?) ∧ w'.os = w.os ∧ w'.tape = w.tape ∧ w'.output = w.output
theorem GQ.refl (n D : Nat) (w : World) : GQ n D w w := ⟨Nat.le_refl _, fun _ _ _ => rfl, rfl, rfl, rfl⟩
theorem GQ.drew {n D : Nat} {w w' : World} (h : GQ n D w w') : GQ n D w w'.drew := ⟨h.1, h.2.1, h.2.2.1, h.2.2.2.1, h.2.2.2.2⟩
theorem GQ.trans {n D : Nat} {u v w : World} (h : GQ n D u v) (k : GQ n D v w) : GQ n D u w := ⟨Nat.le_trans h.1 k.1, fun g hg hne => (k.2.1 g (Nat.lt_of_lt_of_le hg h.1) hne).trans (h.2.1 g hg hne), k.2.2.1.trans h.2.2.1, k.2.2.2.1.trans h.2.2.2.1, k.2.2.2.2.trans h.2.2.2.2⟩
theorem GQ.below (n D : Nat) {w w' : World} (hb : Below w.heap.size w w') : GQ n D w w' := ⟨hb.size, fun g hg _ => hb.block g hg, hb.os, hb.tape, hb.output⟩
theorem GQ.next {n D : Nat} {u w w' : World} (h : GQ n D u w) (hb : Below w.heap.size w w') : GQ n D u w' := h.trans (GQ.below n D hb)
theorem GQ.more {n m D : Nat} {u w : World} (h : GQ n D u w) (hm : n ≤ m) : GQ m D u w := ⟨h.1, fun g hg hne => h.2.1 g hg (by omega), h.2.2⟩
theorem GQ.set {n D g : Nat} {u w : World} (h : GQ n D u w) (h1 : D ≤ g) (h2 : g < D + n) (i : Nat) (v : Value) : GQ n D u (w.setCell ⟨g, i, none⟩ v) := by
 refine h.trans ⟨by simp [World.setCell], fun k hk hne => ?_, rfl, rfl, rfl⟩
 have e : g ≠ k := by omega
 simp [World.setCell, Array.getElem?_modify, e]
theorem GQ.put {n D g : Nat} {u w w' : World} (h : GQ n D u w) (h1 : D ≤ g) (h2 : g < D + n) (hg : w.grownBy w' (some g)) : GQ n D u w' := by
 refine h.trans ⟨hg.size, fun k hk hne => hg.block k hk (fun e => ?_), hg.os, hg.tape, hg.output⟩
 have e2 : k = g := Option.some.inj e
 omega
theorem GQ.bel {n D N : Nat} {u w w' : World} (h : Below N u w) (k : GQ n D w w') (hN : N ≤ w.heap.size) (hD : N ≤ D) : Below N u w' := h.trans ⟨k.2.2.1, k.2.2.2.1, k.2.2.2.2, k.1, fun g hg => k.2.1 g (by omega) (.inl (by omega))⟩
theorem BX.gq {n D : Nat} {u W : World} {g : Nat} {C : Array Value} {t : TypeId} (h : BX u g C t) (hb : GQ n D u W) (hne : g < D ∨ D + n ≤ g) : BX W g C t := by
 unfold BX at h ⊢
 rw [hb.2.1 g (Array.getElem?_eq_some_iff.1 h).1 hne]
 exact h
theorem gqcell {n D : Nat} {u W : World} (hb : GQ n D u W) {p : Addr} {v : Value} (hp : u.cell? p = some v) (hne : p.block < D ∨ D + n ≤ p.block) : W.cell? p = some v := by
 rw [World.cell?_of_block (w := u) (hb.2.1 p.block (World.block_lt_of_cell? u _ hp) hne)]
 exact hp
abbrev Sn16 := (Int × Int × Int × Int × Int) × List ByteArray × List Int × (Int → Int → Int)
def SN (w : World) (D : Nat) (h : Int × Int × Int) (k : Nat) (x : Sn16) : Prop :=
 BX w (D + 3) #[.int .i64 0, .int .i64 h.1, .int .i64 h.2.1, .int .i64 h.2.2, .int .i64 0, .int .i64 x.1.1, .int .i64 x.1.2.1, .int .i64 x.1.2.2.1, .int .i64 x.1.2.2.2.1, .int .i64 x.1.2.2.2.2, .map (some D), .map (some (D + 1)), .map (some (D + 2))] 84 ∧ NMp w D k x.2.1 ∧ FMp w (D + 1) k x.2.2.1 ∧ LMp w (D + 2) k x.2.2.2
theorem SN.below {w w' : World} {D k : Nat} {h : Int × Int × Int} {x : Sn16} (hs : SN w D h k x) (hb : Below w.heap.size w w') : SN w' D h k x :=
 ⟨hs.1.below hb, hs.2.1.keep (hb.block _ hs.2.1.lt), hs.2.2.1.keep (hb.block _ hs.2.2.1.lt), hs.2.2.2.keep (hb.block _ hs.2.2.2.lt)⟩
theorem SN.size {w : World} {D k : Nat} {h : Int × Int × Int} {x : Sn16} (hs : SN w D h k x) : D + 3 < w.heap.size := hs.1.size
theorem SN.mono {w : World} {D k k' : Nat} {h : Int × Int × Int} {x : Sn16} (hs : SN w D h k x) (hk : k ≤ k') : SN w D h k' x := ⟨hs.1, hs.2.1.mono hk, hs.2.2.1.mono hk, hs.2.2.2.mono hk⟩
def SP (n D : Nat) (h : Int × Int × Int) (k : Nat) (x : Sn16) (b : Bool) (w : World) (e : Ending) (w' : World) : Prop := e = .returned (.bool b) ∧ GQ n D w w' ∧ (b = true → SN w' D h k x)
theorem wpl_name {ops : Array Oper} {rest : List Oper} {o : Oper} {a : Act} {Q : Exit → Act → World → Prop} (w : World) (hg : o.guard = none) (m x v : Operand) (hop : o.op = Op.mapUpdate 80 m x v) {b k : Nat} {S : List ByteArray} {s : ByteArray} (hm : a.eval m = .map (some b)) (h : NMp w b k S) (hk : k < maxLen) (hx : a.eval x = .string s) (hv : a.eval v = .agg #[]) (hs : s.size ≤ maxLen)
  (hK : ∀ w', NMp w' b (k + 1) (S ++ [s]) → w.grownBy w' (some b) → wpList Tryz.prog ops Q rest (a.put o.dst undef) w') : wpList Tryz.prog ops Q (o :: rest) a w := by
 refine wpList_plain hg fun K' hK' => ?_
 obtain ⟨w', hrun, r1, r2⟩ := h.put hk hs
 unfold Oper.wp
 simp [execOp, hop, hm, hx, hv, hrun, Result.andThen]
 exact hK' _ _ (hK w' r1 r2)
theorem wpl_floor {ops : Array Oper} {rest : List Oper} {o : Oper} {a : Act} {Q : Exit → Act → World → Prop} (w : World) (hg : o.guard = none) (m x v : Operand) (hop : o.op = Op.mapUpdate 81 m x v) {b k : Nat} {S : List Int} {c : Int} (hm : a.eval m = .map (some b)) (h : FMp w b k S) (hk : k < maxLen) (hx : a.eval x = .int .i64 c) (hv : a.eval v = .agg #[]) (hc : (Lit.int .i64 c).wf = true)
  (hK : ∀ w', FMp w' b (k + 1) (S ++ [c]) → w.grownBy w' (some b) → wpList Tryz.prog ops Q rest (a.put o.dst undef) w') : wpList Tryz.prog ops Q (o :: rest) a w := by
 refine wpList_plain hg fun K' hK' => ?_
 obtain ⟨w', hrun, r1, r2⟩ := h.put hk hc
 unfold Oper.wp
 simp [execOp, hop, hm, hx, hv, hrun, Result.andThen]
 exact hK' _ _ (hK w' r1 r2)
theorem built_unit : Tryz.prog.built 118 [] = some #[] := by kernel_rfl
theorem build_unit (W : World) : (Instr.build 118 #[]).run Tryz.prog W = .ok (.agg #[]) W := run_build W 118 #[] #[] built_unit
theorem wpl_unit {ops : Array Oper} {rest : List Oper} {o : Oper} {a : Act} {Q : Exit → Act → World → Prop} (w : World) (hg : o.guard = none) (hop : o.op = Op.build 118 #[]) (hK : wpList Tryz.prog ops Q rest (a.put o.dst (.agg #[])) w) : wpList Tryz.prog ops Q (o :: rest) a w := by
 refine wpList_plain hg fun K' hK' => ?_
 have e := build_unit w
 unfold Oper.wp
 simp [execOp, hop, e, Result.andThen]
 exact hK' _ _ hK
def nmS (S : List ByteArray) (s : ByteArray) : Bool := nameB s && decide (atL S s < 0)
def flS (S : List Int) (c : Int) : Bool := decide (c ∉ S)
def mostB (k : Int) : Int := if k = 1 then 6 else if k = 2 then 4 else if k = 3 then 3 else 0
theorem most16 (k : Int) (w : World) : Calls Tryz.prog 36 #[.int .i64 k] w fun e w' => e = .returned (.int .i64 (mostB k)) ∧ w' = w := by
 unfold mostB
 by_cases h1 : k = 1
 ·subst h1
  rw [if_pos rfl]
  go_enter Tryz.func36, Tryz.ntmps36
  go_wp2
  go_ret
  exact ⟨rfl, rfl⟩
 by_cases h2 : k = 2
 ·subst h2
  rw [if_neg (by decide), if_pos rfl]
  go_enter Tryz.func36, Tryz.ntmps36
  go_wp2
  go_ret
  exact ⟨rfl, rfl⟩
 by_cases h3 : k = 3
 ·subst h3
  rw [if_neg (by decide), if_neg (by decide), if_pos rfl]
  go_enter Tryz.func36, Tryz.ntmps36
  go_wp2
  go_ret
  exact ⟨rfl, rfl⟩
 rw [if_neg h1, if_neg h2, if_neg h3]
 have b1 : (k == 1) = false := by simpa using h1
 have b2 : (k == 2) = false := by simpa using h2
 have b3 : (k == 3) = false := by simpa using h3
 clear h1 h2 h3
 go_enter Tryz.func36, Tryz.ntmps36
 go_wp2
 go_ret
 exact ⟨rfl, rfl⟩
theorem SN.nam {w w' : World} {D k : Nat} {h : Int × Int × Int} {x : Sn16} {s : ByteArray} (hs : SN w D h k x) (hn : NMp w' D (k + 1) (x.2.1 ++ [s])) (hg : w.grownBy w' (some D)) : SN w' D h (k + 1) (x.1, x.2.1 ++ [s], x.2.2) :=
 ⟨hs.1.grown hg (by simp), hn, (hs.2.2.1.keep (hg.block _ hs.2.2.1.lt (by simp))).mono (by omega), (hs.2.2.2.keep (hg.block _ hs.2.2.2.lt (by simp))).mono (by omega)⟩
set_option maxHeartbeats 4000000 in
theorem name16 (D k : Nat) (h : Int × Int × Int) (x : Sn16) (s : ByteArray) (w : World) (hS : SN w D h k x) (hk : k ≤ 10000) (hs : s.size ≤ maxLen) :
  Calls Tryz.prog 62 #[.pointer (some ⟨D + 3, 0, none⟩), .string s] w (SP 3 D h (k + 1) (x.1, x.2.1 ++ [s], x.2.2) (nmS x.2.1 s) w) := by
 have HSN := hide hS
 have HC := hide (fun W => mayName16 s W hs)
 have e10 : w.cell? ⟨D + 3, 10, none⟩ = some (.map (some D)) := hS.1.cell 10 _ rfl
 clear hS
 rcases hnm : nameB s with _ | _
 ·have HNM := hide hnm
  have HR : Hid (nmS x.2.1 s = false) := by unfold Hid nmS; rw [hnm]; rfl
  clear hnm
  go_enter Tryz.func62, Tryz.ntmps62
  go_wp2_with (first | (go_at_call 75; refine (HC.out _).mono ?_; rintro e w1 ⟨rfl, hb⟩; rw [HNM.out]; have HQ := hide (GQ.below 3 D hb); clear hb))
  go_ret
  exact ⟨by rw [HR.out]; rfl, HQ.out, fun hh => by rw [HR.out] at hh; cases hh⟩
 ·have HNM := hide hnm
  clear hnm
  by_cases hz : s ∈ x.2.1
  ·have HZ : Hid ((true = true) ↔ s ∈ x.2.1) := by unfold Hid; simp [hz]
   have HR : Hid (nmS x.2.1 s = false) := by unfold Hid nmS; rw [HNM.out, decide_eq_false (by rw [atL_neg]; exact fun q => q hz)]; rfl
   clear hz
   go_enter Tryz.func62, Tryz.ntmps62
   go_wp2_with (first | (go_at_call 75; refine (HC.out _).mono ?_; rintro e w1 ⟨rfl, hb⟩; rw [HNM.out]; have HS1 := hide (HSN.out.below hb); have HQ := hide (GQ.below 3 D hb); have hl := HS1.out.2.1.look hs HZ.out; replace e10 := bcell hb e10; have e10a := cell_old (.cells #[] 118) e10; clear hb) | (refine wpl_unit _ rfl rfl ?_) | (at_mapUpdate; refine wpl_name _ rfl _ _ _ rfl rfl ((HS1.out.below (bel1 _ _)).2.1) (by unfold maxLen; omega) rfl rfl hs ?_; intro w2 hn2 hg2))
   go_ret
   refine ⟨by rw [HR.out]; rfl, ?_, ?_⟩
   ·exact (HQ.out.next (bel1 _ _)).put (Nat.le_refl _) (by omega) hg2
   ·intro hh; rw [HR.out] at hh; cases hh
  ·have HZ : Hid ((false = true) ↔ s ∈ x.2.1) := by unfold Hid; simp [hz]
   have HR : Hid (nmS x.2.1 s = true) := by unfold Hid nmS; rw [HNM.out, decide_eq_true (by rw [atL_neg]; exact hz)]; rfl
   clear hz
   go_enter Tryz.func62, Tryz.ntmps62
   go_wp2_with (first | (go_at_call 75; refine (HC.out _).mono ?_; rintro e w1 ⟨rfl, hb⟩; rw [HNM.out]; have HS1 := hide (HSN.out.below hb); have HQ := hide (GQ.below 3 D hb); have hl := HS1.out.2.1.look hs HZ.out; replace e10 := bcell hb e10; have e10a := cell_old (.cells #[] 118) e10; clear hb) | (refine wpl_unit _ rfl rfl ?_) | (at_mapUpdate; refine wpl_name _ rfl _ _ _ rfl rfl ((HS1.out.below (bel1 _ _)).2.1) (by unfold maxLen; omega) rfl rfl hs ?_; intro w2 hn2 hg2))
   go_ret
   refine ⟨by rw [HR.out]; rfl, ?_, ?_⟩
   ·exact (HQ.out.next (bel1 _ _)).put (Nat.le_refl _) (by omega) hg2
   ·intro _; exact SN.nam (HS1.out.below (bel1 _ _)) hn2 hg2
theorem SN.flo {w w' : World} {D k : Nat} {h : Int × Int × Int} {x : Sn16} {c : Int} (hs : SN w D h k x) (hn : FMp w' (D + 1) (k + 1) (x.2.2.1 ++ [c])) (hg : w.grownBy w' (some (D + 1))) : SN w' D h (k + 1) (x.1, x.2.1, x.2.2.1 ++ [c], x.2.2.2) :=
 ⟨hs.1.grown hg (by simp), (hs.2.1.keep (hg.block _ hs.2.1.lt (by simp))).mono (by omega), hn, (hs.2.2.2.keep (hg.block _ hs.2.2.2.lt (by simp))).mono (by omega)⟩
set_option maxHeartbeats 4000000 in
theorem floor16 (D k : Nat) (h : Int × Int × Int) (x : Sn16) (c : Int) (w : World) (hS : SN w D h k x) (hk : k ≤ 10000) (hc : (Lit.int .i64 c).wf = true) :
  Calls Tryz.prog 66 #[.pointer (some ⟨D + 3, 0, none⟩), .int .i64 c] w (SP 3 D h (k + 1) (x.1, x.2.1, x.2.2.1 ++ [c], x.2.2.2) (flS x.2.2.1 c) w) := by
 have HSN := hide hS
 have e11 : w.cell? ⟨D + 3, 11, none⟩ = some (.map (some (D + 1))) := hS.1.cell 11 _ rfl
 have e11a : (w.alloc (.cells #[] 118)).cell? ⟨D + 3, 11, none⟩ = some (.map (some (D + 1))) := cell_old _ e11
 clear hS
 by_cases hz : c ∈ x.2.2.1
 ·have HZ : Hid ((true = true) ↔ c ∈ x.2.2.1) := by unfold Hid; simp [hz]
  have HR : Hid (flS x.2.2.1 c = false) := by unfold Hid flS; simp [hz]
  clear hz
  have hl := HSN.out.2.2.1.look hc HZ.out
  go_enter Tryz.func66, Tryz.ntmps66
  go_wp2_with (first | (refine wpl_unit _ rfl rfl ?_) | (at_mapUpdate; refine wpl_floor _ rfl _ _ _ rfl rfl ((HSN.out.below (bel1 _ _)).2.2.1) (by unfold maxLen; omega) rfl rfl hc ?_; intro w2 hn2 hg2))
  go_ret
  refine ⟨by rw [HR.out]; rfl, ?_, ?_⟩
  ·exact ((GQ.refl 3 D w).next (bel1 _ _)).put (by omega) (by omega) hg2
  ·intro hh; rw [HR.out] at hh; cases hh
 ·have HZ : Hid ((false = true) ↔ c ∈ x.2.2.1) := by unfold Hid; simp [hz]
  have HR : Hid (flS x.2.2.1 c = true) := by unfold Hid flS; simp [hz]
  clear hz
  have hl := HSN.out.2.2.1.look hc HZ.out
  go_enter Tryz.func66, Tryz.ntmps66
  go_wp2_with (first | (refine wpl_unit _ rfl rfl ?_) | (at_mapUpdate; refine wpl_floor _ rfl _ _ _ rfl rfl ((HSN.out.below (bel1 _ _)).2.2.1) (by unfold maxLen; omega) rfl rfl hc ?_; intro w2 hn2 hg2))
  go_ret
  refine ⟨by rw [HR.out]; rfl, ?_, ?_⟩
  ·exact ((GQ.refl 3 D w).next (bel1 _ _)).put (by omega) (by omega) hg2
  ·intro _; exact SN.flo (HSN.out.below (bel1 _ _)) hn2 hg2
def thB1 (t : Int) (S : List ByteArray) (s : ByteArray) : Bool := decide (t + 1 ≤ 6) && nmS S s
set_option maxHeartbeats 4000000 in
theorem thing16_1 (D k : Nat) (h : Int × Int × Int) (t1 t2 t3 cl op : Int) (S : List ByteArray) (G : List Int) (f : Int → Int → Int) (s : ByteArray) (w : World) (hS : SN w D h k ((t1, t2, t3, cl, op), S, G, f)) (hk : k ≤ 10000) (hs : s.size ≤ maxLen) (ht : 0 ≤ t1 ∧ t1 ≤ 1000) :
  Calls Tryz.prog 46 #[.pointer (some ⟨D + 3, 0, none⟩), .int .i64 1, .string s] w (SP 4 D h (k + 1) ((t1 + 1, t2, t3, cl, op), S ++ [s], G, f) (thB1 t1 S s) w) := by
 have HSN := hide hS
 have c4 : w.cell? ⟨D + 3, 5, none⟩ = some (.int .i64 t1) := hS.1.cell 5 _ rfl
 have f4 : w.frozen? ⟨D + 3, 5, none⟩ = false := hS.1.free 5
 obtain ⟨ht0, ht1⟩ := ht
 have hwr : IntKind.i64.wrap (t1 + 1) = t1 + 1 := by unfold IntKind.wrap IntKind.bits; simp [IntKind.signed]; omega
 clear hS
 go_enter Tryz.func46, Tryz.ntmps46
 go_upto_region 1 with fail
 go_region
 go_upto_region 2 with fail
 generalize hu : (w.setCell ⟨D + 3, 5, none⟩ (.int .i64 (t1 + 1))).drew = u at *
 have HG : Hid (GQ 4 D w u) := by unfold Hid; rw [← hu]; exact ((GQ.refl 4 D w).set (by omega) (by omega) _ _).drew
 have HXU : Hid (SN u.drew D h k ((t1 + 1, t2, t3, cl, op), S, G, f)) := by
  unfold Hid
  rw [← hu]
  have e : ∀ j, j < D + 3 → ((w.setCell ⟨D + 3, 5, none⟩ (.int .i64 (t1 + 1))).drew.drew).heap[j]? = w.heap[j]? := fun j hj => by
   have e2 : D + 3 ≠ j := by omega
   show ((w.setCell ⟨D + 3, 5, none⟩ (.int .i64 (t1 + 1)))).heap[j]? = w.heap[j]?
   simp [World.setCell, Array.getElem?_modify, e2]
  exact ⟨HSN.out.1.set 5 _, HSN.out.2.1.keep (e _ (by omega)), HSN.out.2.2.1.keep (e _ (by omega)), HSN.out.2.2.2.keep (e _ (by omega))⟩
 replace c4 : u.cell? ⟨D + 3, 5, none⟩ = some (.int .i64 (t1 + 1)) := HXU.out.1.cell 5 _ rfl
 clear hu f4
 by_cases hle : t1 + 1 ≤ 6
 ·rcases hnm : nmS S s with _ | _
  ·have HNM := hide hnm
   have HR : Hid (thB1 t1 S s = false) := by unfold Hid thB1; rw [hnm, Bool.and_false]
   clear hnm
   refine wp_region_held_drew (S := fun W => GQ 3 D u W) (by kernel_rfl) ((GQ.refl 3 D u).drew) (fun hS0 => ?_)
   refine tkJ 0 17 hS0 ?_; simp only [ly]
   refine tkJ 1 18 hS0 ?_; simp only [ly]
   refine tkJ 2 19 hS0 ?_; simp only [ly]
   refine tkJ 3 20 hS0 ?_; simp only [ly]
   refine tkJ 4 21 hS0 ?_; simp only [ly]
   refine tkI 5 22 ?v18 rfl rfl hS0 ?hy18 ?_
   case hy18 => (intro W hW; have e0 := gqcell hW c4 (.inr (Nat.le_refl _)); clear hW; go_simp; try rfl)
   simp only [ly]
   refine tkJ 6 23 hS0 ?_; simp only [ly]
   refine wpAnyH_ready (rs := [7]) (by kernel_rfl) (by simp) ?_
   refine AllReadyH.cons rfl (fun K hK => ?_) AllReadyH.nil
   go_simp
   go_at_call 36
   refine (most16 1 _).mono ?_
   rintro e w1 ⟨rfl, hw9⟩
   have hw8 := hw9.symm
   subst hw8
   clear hw9
   rw [show mostB 1 = 6 from rfl]
   refine hK.out _ _ ?hs20 (fun hS1 => ?_)
   case hs20 => exact hS0
   clear hK K
   try simp only [ly]
   refine tkJ 8 25 hS1 ?_; simp only [ly]
   refine tkJ 9 26 hS1 ?_; simp only [ly]
   refine tkJ 10 27 hS1 ?_; simp only [ly]
   refine tkJ 11 28 hS1 ?_; simp only [ly]
   refine wpAnyH_ready (rs := [12]) (by kernel_rfl) (by simp) ?_
   refine AllReadyH.cons rfl (fun K hK => ?_) AllReadyH.nil
   go_simp
   go_at_call 62
   refine (name16 D k h _ s _ HXU.out hk hs).mono ?_
   rintro e w1 ⟨rfl, hq, hpost⟩
   rw [HNM.out]
   clear hpost
   refine hK.out _ _ ?hs25 (fun hS2 => ?_)
   case hs25 => exact GQ.trans hS1 hq
   clear hK K
   try simp only [ly]
   refine tkJ 13 30 hS2 ?_; simp only [ly]
   refine tkJ 14 6 hS2 ?_; simp only [ly]
   refine wpAnyH_done (by kernel_rfl) ?_ _
   have HQ := hide hS2
   go_wp2
   go_ret
   exact ⟨by rw [HR.out]; rfl, HG.out.trans (HQ.out.more (by omega)), fun hh => by rw [HR.out] at hh; cases hh⟩
  ·have HNM := hide hnm
   have HR : Hid (thB1 t1 S s = true) := by unfold Hid thB1; rw [hnm, decide_eq_true hle]; rfl
   clear hnm
   refine wp_region_held_drew (S := fun W => GQ 3 D u W) (by kernel_rfl) ((GQ.refl 3 D u).drew) (fun hS0 => ?_)
   refine tkJ 0 17 hS0 ?_; simp only [ly]
   refine tkJ 1 18 hS0 ?_; simp only [ly]
   refine tkJ 2 19 hS0 ?_; simp only [ly]
   refine tkJ 3 20 hS0 ?_; simp only [ly]
   refine tkJ 4 21 hS0 ?_; simp only [ly]
   refine tkI 5 22 ?v33 rfl rfl hS0 ?hy33 ?_
   case hy33 => (intro W hW; have e0 := gqcell hW c4 (.inr (Nat.le_refl _)); clear hW; go_simp; try rfl)
   simp only [ly]
   refine tkJ 6 23 hS0 ?_; simp only [ly]
   refine wpAnyH_ready (rs := [7]) (by kernel_rfl) (by simp) ?_
   refine AllReadyH.cons rfl (fun K hK => ?_) AllReadyH.nil
   go_simp
   go_at_call 36
   refine (most16 1 _).mono ?_
   rintro e w1 ⟨rfl, hw9⟩
   have hw8 := hw9.symm
   subst hw8
   clear hw9
   rw [show mostB 1 = 6 from rfl]
   refine hK.out _ _ ?hs35 (fun hS1 => ?_)
   case hs35 => exact hS0
   clear hK K
   try simp only [ly]
   refine tkJ 8 25 hS1 ?_; simp only [ly]
   refine tkJ 9 26 hS1 ?_; simp only [ly]
   refine tkJ 10 27 hS1 ?_; simp only [ly]
   refine tkJ 11 28 hS1 ?_; simp only [ly]
   refine wpAnyH_ready (rs := [12]) (by kernel_rfl) (by simp) ?_
   refine AllReadyH.cons rfl (fun K hK => ?_) AllReadyH.nil
   go_simp
   go_at_call 62
   refine (name16 D k h _ s _ HXU.out hk hs).mono ?_
   rintro e w1 ⟨rfl, hq, hpost⟩
   rw [HNM.out]
   have HP := hide (hpost HNM.out)
   clear hpost
   refine hK.out _ _ ?hs40 (fun hS2 => ?_)
   case hs40 => exact GQ.trans hS1 hq
   clear hK K
   try simp only [ly]
   refine tkJ 13 30 hS2 ?_; simp only [ly]
   refine tkJ 14 6 hS2 ?_; simp only [ly]
   refine wpAnyH_done (by kernel_rfl) ?_ _
   have HQ := hide hS2
   go_wp2
   go_ret
   exact ⟨by rw [HR.out]; rfl, HG.out.trans (HQ.out.more (by omega)), fun _ => HP.out⟩
 ·have HR : Hid (thB1 t1 S s = false) := by unfold Hid thB1; rw [decide_eq_false hle]; rfl
  refine wp_region_held_drew (S := fun W => GQ 3 D u W) (by kernel_rfl) ((GQ.refl 3 D u).drew) (fun hS0 => ?_)
  refine tkJ 0 17 hS0 ?_; simp only [ly]
  refine tkJ 1 18 hS0 ?_; simp only [ly]
  refine tkJ 2 19 hS0 ?_; simp only [ly]
  refine tkJ 3 20 hS0 ?_; simp only [ly]
  refine tkJ 4 21 hS0 ?_; simp only [ly]
  refine tkI 5 22 ?v6 rfl rfl hS0 ?hy6 ?_
  case hy6 => (intro W hW; have e0 := gqcell hW c4 (.inr (Nat.le_refl _)); clear hW; go_simp; try rfl)
  simp only [ly]
  refine tkJ 6 23 hS0 ?_; simp only [ly]
  refine wpAnyH_ready (rs := [7]) (by kernel_rfl) (by simp) ?_
  refine AllReadyH.cons rfl (fun K hK => ?_) AllReadyH.nil
  go_simp
  go_at_call 36
  refine (most16 1 _).mono ?_
  rintro e w1 ⟨rfl, hw9⟩
  have hw8 := hw9.symm
  subst hw8
  clear hw9
  rw [show mostB 1 = 6 from rfl]
  refine hK.out _ _ ?hs8 (fun hS1 => ?_)
  case hs8 => exact hS0
  clear hK K
  try simp only [ly]
  refine tkJ 8 25 hS1 ?_; simp only [ly]
  refine tkJ 9 26 hS1 ?_; simp only [ly]
  refine tkM 10 27 hS1 ?_; simp only [ly]
  refine tkM 11 28 hS1 ?_; simp only [ly]
  refine tkM 12 29 hS1 ?_; simp only [ly]
  refine tkJ 13 30 hS1 ?_; simp only [ly]
  refine tkJ 14 6 hS1 ?_; simp only [ly]
  refine wpAnyH_done (by kernel_rfl) ?_ _
  have HQ := hide hS1
  go_wp2
  go_ret
  exact ⟨by rw [HR.out]; rfl, HG.out.trans (HQ.out.more (by omega)), fun hh => by rw [HR.out] at hh; cases hh⟩
def thB2 (t : Int) (S : List ByteArray) (s : ByteArray) : Bool := decide (t + 1 ≤ 4) && nmS S s
set_option maxHeartbeats 4000000 in
theorem thing16_2 (D k : Nat) (h : Int × Int × Int) (t1 t2 t3 cl op : Int) (S : List ByteArray) (G : List Int) (f : Int → Int → Int) (s : ByteArray) (w : World) (hS : SN w D h k ((t1, t2, t3, cl, op), S, G, f)) (hk : k ≤ 10000) (hs : s.size ≤ maxLen) (ht : 0 ≤ t2 ∧ t2 ≤ 1000) :
  Calls Tryz.prog 46 #[.pointer (some ⟨D + 3, 0, none⟩), .int .i64 2, .string s] w (SP 4 D h (k + 1) ((t1, t2 + 1, t3, cl, op), S ++ [s], G, f) (thB2 t2 S s) w) := by
 have HSN := hide hS
 have c4 : w.cell? ⟨D + 3, 6, none⟩ = some (.int .i64 t2) := hS.1.cell 6 _ rfl
 have f4 : w.frozen? ⟨D + 3, 6, none⟩ = false := hS.1.free 6
 obtain ⟨ht0, ht1⟩ := ht
 have hwr : IntKind.i64.wrap (t2 + 1) = t2 + 1 := by unfold IntKind.wrap IntKind.bits; simp [IntKind.signed]; omega
 clear hS
 go_enter Tryz.func46, Tryz.ntmps46
 go_upto_region 1 with fail
 go_region
 go_upto_region 2 with fail
 generalize hu : (w.setCell ⟨D + 3, 6, none⟩ (.int .i64 (t2 + 1))).drew = u at *
 have HG : Hid (GQ 4 D w u) := by unfold Hid; rw [← hu]; exact ((GQ.refl 4 D w).set (by omega) (by omega) _ _).drew
 have HXU : Hid (SN u.drew D h k ((t1, t2 + 1, t3, cl, op), S, G, f)) := by
  unfold Hid
  rw [← hu]
  have e : ∀ j, j < D + 3 → ((w.setCell ⟨D + 3, 6, none⟩ (.int .i64 (t2 + 1))).drew.drew).heap[j]? = w.heap[j]? := fun j hj => by
   have e2 : D + 3 ≠ j := by omega
   show ((w.setCell ⟨D + 3, 6, none⟩ (.int .i64 (t2 + 1)))).heap[j]? = w.heap[j]?
   simp [World.setCell, Array.getElem?_modify, e2]
  exact ⟨HSN.out.1.set 6 _, HSN.out.2.1.keep (e _ (by omega)), HSN.out.2.2.1.keep (e _ (by omega)), HSN.out.2.2.2.keep (e _ (by omega))⟩
 replace c4 : u.cell? ⟨D + 3, 6, none⟩ = some (.int .i64 (t2 + 1)) := HXU.out.1.cell 6 _ rfl
 clear hu f4
 by_cases hle : t2 + 1 ≤ 4
 ·rcases hnm : nmS S s with _ | _
  ·have HNM := hide hnm
   have HR : Hid (thB2 t2 S s = false) := by unfold Hid thB2; rw [hnm, Bool.and_false]
   clear hnm
   refine wp_region_held_drew (S := fun W => GQ 3 D u W) (by kernel_rfl) ((GQ.refl 3 D u).drew) (fun hS0 => ?_)
   refine tkJ 0 17 hS0 ?_; simp only [ly]
   refine tkJ 1 18 hS0 ?_; simp only [ly]
   refine tkJ 2 19 hS0 ?_; simp only [ly]
   refine tkJ 3 20 hS0 ?_; simp only [ly]
   refine tkJ 4 21 hS0 ?_; simp only [ly]
   refine tkI 5 22 ?v60 rfl rfl hS0 ?hy60 ?_
   case hy60 => (intro W hW; have e0 := gqcell hW c4 (.inr (Nat.le_refl _)); clear hW; go_simp; try rfl)
   simp only [ly]
   refine tkJ 6 23 hS0 ?_; simp only [ly]
   refine wpAnyH_ready (rs := [7]) (by kernel_rfl) (by simp) ?_
   refine AllReadyH.cons rfl (fun K hK => ?_) AllReadyH.nil
   go_simp
   go_at_call 36
   refine (most16 2 _).mono ?_
   rintro e w1 ⟨rfl, hw9⟩
   have hw8 := hw9.symm
   subst hw8
   clear hw9
   rw [show mostB 2 = 4 from rfl]
   refine hK.out _ _ ?hs62 (fun hS1 => ?_)
   case hs62 => exact hS0
   clear hK K
   try simp only [ly]
   refine tkJ 8 25 hS1 ?_; simp only [ly]
   refine tkJ 9 26 hS1 ?_; simp only [ly]
   refine tkJ 10 27 hS1 ?_; simp only [ly]
   refine tkJ 11 28 hS1 ?_; simp only [ly]
   refine wpAnyH_ready (rs := [12]) (by kernel_rfl) (by simp) ?_
   refine AllReadyH.cons rfl (fun K hK => ?_) AllReadyH.nil
   go_simp
   go_at_call 62
   refine (name16 D k h _ s _ HXU.out hk hs).mono ?_
   rintro e w1 ⟨rfl, hq, hpost⟩
   rw [HNM.out]
   clear hpost
   refine hK.out _ _ ?hs67 (fun hS2 => ?_)
   case hs67 => exact GQ.trans hS1 hq
   clear hK K
   try simp only [ly]
   refine tkJ 13 30 hS2 ?_; simp only [ly]
   refine tkJ 14 6 hS2 ?_; simp only [ly]
   refine wpAnyH_done (by kernel_rfl) ?_ _
   have HQ := hide hS2
   go_wp2
   go_ret
   exact ⟨by rw [HR.out]; rfl, HG.out.trans (HQ.out.more (by omega)), fun hh => by rw [HR.out] at hh; cases hh⟩
  ·have HNM := hide hnm
   have HR : Hid (thB2 t2 S s = true) := by unfold Hid thB2; rw [hnm, decide_eq_true hle]; rfl
   clear hnm
   refine wp_region_held_drew (S := fun W => GQ 3 D u W) (by kernel_rfl) ((GQ.refl 3 D u).drew) (fun hS0 => ?_)
   refine tkJ 0 17 hS0 ?_; simp only [ly]
   refine tkJ 1 18 hS0 ?_; simp only [ly]
   refine tkJ 2 19 hS0 ?_; simp only [ly]
   refine tkJ 3 20 hS0 ?_; simp only [ly]
   refine tkJ 4 21 hS0 ?_; simp only [ly]
   refine tkI 5 22 ?v75 rfl rfl hS0 ?hy75 ?_
   case hy75 => (intro W hW; have e0 := gqcell hW c4 (.inr (Nat.le_refl _)); clear hW; go_simp; try rfl)
   simp only [ly]
   refine tkJ 6 23 hS0 ?_; simp only [ly]
   refine wpAnyH_ready (rs := [7]) (by kernel_rfl) (by simp) ?_
   refine AllReadyH.cons rfl (fun K hK => ?_) AllReadyH.nil
   go_simp
   go_at_call 36
   refine (most16 2 _).mono ?_
   rintro e w1 ⟨rfl, hw9⟩
   have hw8 := hw9.symm
   subst hw8
   clear hw9
   rw [show mostB 2 = 4 from rfl]
   refine hK.out _ _ ?hs77 (fun hS1 => ?_)
   case hs77 => exact hS0
   clear hK K
   try simp only [ly]
   refine tkJ 8 25 hS1 ?_; simp only [ly]
   refine tkJ 9 26 hS1 ?_; simp only [ly]
   refine tkJ 10 27 hS1 ?_; simp only [ly]
   refine tkJ 11 28 hS1 ?_; simp only [ly]
   refine wpAnyH_ready (rs := [12]) (by kernel_rfl) (by simp) ?_
   refine AllReadyH.cons rfl (fun K hK => ?_) AllReadyH.nil
   go_simp
   go_at_call 62
   refine (name16 D k h _ s _ HXU.out hk hs).mono ?_
   rintro e w1 ⟨rfl, hq, hpost⟩
   rw [HNM.out]
   have HP := hide (hpost HNM.out)
   clear hpost
   refine hK.out _ _ ?hs82 (fun hS2 => ?_)
   case hs82 => exact GQ.trans hS1 hq
   clear hK K
   try simp only [ly]
   refine tkJ 13 30 hS2 ?_; simp only [ly]
   refine tkJ 14 6 hS2 ?_; simp only [ly]
   refine wpAnyH_done (by kernel_rfl) ?_ _
   have HQ := hide hS2
   go_wp2
   go_ret
   exact ⟨by rw [HR.out]; rfl, HG.out.trans (HQ.out.more (by omega)), fun _ => HP.out⟩
 ·have HR : Hid (thB2 t2 S s = false) := by unfold Hid thB2; rw [decide_eq_false hle]; rfl
  refine wp_region_held_drew (S := fun W => GQ 3 D u W) (by kernel_rfl) ((GQ.refl 3 D u).drew) (fun hS0 => ?_)
  refine tkJ 0 17 hS0 ?_; simp only [ly]
  refine tkJ 1 18 hS0 ?_; simp only [ly]
  refine tkJ 2 19 hS0 ?_; simp only [ly]
  refine tkJ 3 20 hS0 ?_; simp only [ly]
  refine tkJ 4 21 hS0 ?_; simp only [ly]
  refine tkI 5 22 ?v48 rfl rfl hS0 ?hy48 ?_
  case hy48 => (intro W hW; have e0 := gqcell hW c4 (.inr (Nat.le_refl _)); clear hW; go_simp; try rfl)
  simp only [ly]
  refine tkJ 6 23 hS0 ?_; simp only [ly]
  refine wpAnyH_ready (rs := [7]) (by kernel_rfl) (by simp) ?_
  refine AllReadyH.cons rfl (fun K hK => ?_) AllReadyH.nil
  go_simp
  go_at_call 36
  refine (most16 2 _).mono ?_
  rintro e w1 ⟨rfl, hw9⟩
  have hw8 := hw9.symm
  subst hw8
  clear hw9
  rw [show mostB 2 = 4 from rfl]
  refine hK.out _ _ ?hs50 (fun hS1 => ?_)
  case hs50 => exact hS0
  clear hK K
  try simp only [ly]
  refine tkJ 8 25 hS1 ?_; simp only [ly]
  refine tkJ 9 26 hS1 ?_; simp only [ly]
  refine tkM 10 27 hS1 ?_; simp only [ly]
  refine tkM 11 28 hS1 ?_; simp only [ly]
  refine tkM 12 29 hS1 ?_; simp only [ly]
  refine tkJ 13 30 hS1 ?_; simp only [ly]
  refine tkJ 14 6 hS1 ?_; simp only [ly]
  refine wpAnyH_done (by kernel_rfl) ?_ _
  have HQ := hide hS1
  go_wp2
  go_ret
  exact ⟨by rw [HR.out]; rfl, HG.out.trans (HQ.out.more (by omega)), fun hh => by rw [HR.out] at hh; cases hh⟩
def thB3 (t : Int) (S : List ByteArray) (s : ByteArray) : Bool := decide (t + 1 ≤ 3) && nmS S s
set_option maxHeartbeats 4000000 in
theorem thing16_3 (D k : Nat) (h : Int × Int × Int) (t1 t2 t3 cl op : Int) (S : List ByteArray) (G : List Int) (f : Int → Int → Int) (s : ByteArray) (w : World) (hS : SN w D h k ((t1, t2, t3, cl, op), S, G, f)) (hk : k ≤ 10000) (hs : s.size ≤ maxLen) (ht : 0 ≤ t3 ∧ t3 ≤ 1000) :
  Calls Tryz.prog 46 #[.pointer (some ⟨D + 3, 0, none⟩), .int .i64 3, .string s] w (SP 4 D h (k + 1) ((t1, t2, t3 + 1, cl, op), S ++ [s], G, f) (thB3 t3 S s) w) := by
 have HSN := hide hS
 have c4 : w.cell? ⟨D + 3, 7, none⟩ = some (.int .i64 t3) := hS.1.cell 7 _ rfl
 have f4 : w.frozen? ⟨D + 3, 7, none⟩ = false := hS.1.free 7
 obtain ⟨ht0, ht1⟩ := ht
 have hwr : IntKind.i64.wrap (t3 + 1) = t3 + 1 := by unfold IntKind.wrap IntKind.bits; simp [IntKind.signed]; omega
 clear hS
 go_enter Tryz.func46, Tryz.ntmps46
 go_upto_region 1 with fail
 go_region
 go_upto_region 2 with fail
 generalize hu : (w.setCell ⟨D + 3, 7, none⟩ (.int .i64 (t3 + 1))).drew = u at *
 have HG : Hid (GQ 4 D w u) := by unfold Hid; rw [← hu]; exact ((GQ.refl 4 D w).set (by omega) (by omega) _ _).drew
 have HXU : Hid (SN u.drew D h k ((t1, t2, t3 + 1, cl, op), S, G, f)) := by
  unfold Hid
  rw [← hu]
  have e : ∀ j, j < D + 3 → ((w.setCell ⟨D + 3, 7, none⟩ (.int .i64 (t3 + 1))).drew.drew).heap[j]? = w.heap[j]? := fun j hj => by
   have e2 : D + 3 ≠ j := by omega
   show ((w.setCell ⟨D + 3, 7, none⟩ (.int .i64 (t3 + 1)))).heap[j]? = w.heap[j]?
   simp [World.setCell, Array.getElem?_modify, e2]
  exact ⟨HSN.out.1.set 7 _, HSN.out.2.1.keep (e _ (by omega)), HSN.out.2.2.1.keep (e _ (by omega)), HSN.out.2.2.2.keep (e _ (by omega))⟩
 replace c4 : u.cell? ⟨D + 3, 7, none⟩ = some (.int .i64 (t3 + 1)) := HXU.out.1.cell 7 _ rfl
 clear hu f4
 by_cases hle : t3 + 1 ≤ 3
 ·rcases hnm : nmS S s with _ | _
  ·have HNM := hide hnm
   have HR : Hid (thB3 t3 S s = false) := by unfold Hid thB3; rw [hnm, Bool.and_false]
   clear hnm
   refine wp_region_held_drew (S := fun W => GQ 3 D u W) (by kernel_rfl) ((GQ.refl 3 D u).drew) (fun hS0 => ?_)
   refine tkJ 0 17 hS0 ?_; simp only [ly]
   refine tkJ 1 18 hS0 ?_; simp only [ly]
   refine tkJ 2 19 hS0 ?_; simp only [ly]
   refine tkJ 3 20 hS0 ?_; simp only [ly]
   refine tkJ 4 21 hS0 ?_; simp only [ly]
   refine tkI 5 22 ?v102 rfl rfl hS0 ?hy102 ?_
   case hy102 => (intro W hW; have e0 := gqcell hW c4 (.inr (Nat.le_refl _)); clear hW; go_simp; try rfl)
   simp only [ly]
   refine tkJ 6 23 hS0 ?_; simp only [ly]
   refine wpAnyH_ready (rs := [7]) (by kernel_rfl) (by simp) ?_
   refine AllReadyH.cons rfl (fun K hK => ?_) AllReadyH.nil
   go_simp
   go_at_call 36
   refine (most16 3 _).mono ?_
   rintro e w1 ⟨rfl, hw9⟩
   have hw8 := hw9.symm
   subst hw8
   clear hw9
   rw [show mostB 3 = 3 from rfl]
   refine hK.out _ _ ?hs104 (fun hS1 => ?_)
   case hs104 => exact hS0
   clear hK K
   try simp only [ly]
   refine tkJ 8 25 hS1 ?_; simp only [ly]
   refine tkJ 9 26 hS1 ?_; simp only [ly]
   refine tkJ 10 27 hS1 ?_; simp only [ly]
   refine tkJ 11 28 hS1 ?_; simp only [ly]
   refine wpAnyH_ready (rs := [12]) (by kernel_rfl) (by simp) ?_
   refine AllReadyH.cons rfl (fun K hK => ?_) AllReadyH.nil
   go_simp
   go_at_call 62
   refine (name16 D k h _ s _ HXU.out hk hs).mono ?_
   rintro e w1 ⟨rfl, hq, hpost⟩
   rw [HNM.out]
   clear hpost
   refine hK.out _ _ ?hs109 (fun hS2 => ?_)
   case hs109 => exact GQ.trans hS1 hq
   clear hK K
   try simp only [ly]
   refine tkJ 13 30 hS2 ?_; simp only [ly]
   refine tkJ 14 6 hS2 ?_; simp only [ly]
   refine wpAnyH_done (by kernel_rfl) ?_ _
   have HQ := hide hS2
   go_wp2
   go_ret
   exact ⟨by rw [HR.out]; rfl, HG.out.trans (HQ.out.more (by omega)), fun hh => by rw [HR.out] at hh; cases hh⟩
  ·have HNM := hide hnm
   have HR : Hid (thB3 t3 S s = true) := by unfold Hid thB3; rw [hnm, decide_eq_true hle]; rfl
   clear hnm
   refine wp_region_held_drew (S := fun W => GQ 3 D u W) (by kernel_rfl) ((GQ.refl 3 D u).drew) (fun hS0 => ?_)
   refine tkJ 0 17 hS0 ?_; simp only [ly]
   refine tkJ 1 18 hS0 ?_; simp only [ly]
   refine tkJ 2 19 hS0 ?_; simp only [ly]
   refine tkJ 3 20 hS0 ?_; simp only [ly]
   refine tkJ 4 21 hS0 ?_; simp only [ly]
   refine tkI 5 22 ?v117 rfl rfl hS0 ?hy117 ?_
   case hy117 => (intro W hW; have e0 := gqcell hW c4 (.inr (Nat.le_refl _)); clear hW; go_simp; try rfl)
   simp only [ly]
   refine tkJ 6 23 hS0 ?_; simp only [ly]
   refine wpAnyH_ready (rs := [7]) (by kernel_rfl) (by simp) ?_
   refine AllReadyH.cons rfl (fun K hK => ?_) AllReadyH.nil
   go_simp
   go_at_call 36
   refine (most16 3 _).mono ?_
   rintro e w1 ⟨rfl, hw9⟩
   have hw8 := hw9.symm
   subst hw8
   clear hw9
   rw [show mostB 3 = 3 from rfl]
   refine hK.out _ _ ?hs119 (fun hS1 => ?_)
   case hs119 => exact hS0
   clear hK K
   try simp only [ly]
   refine tkJ 8 25 hS1 ?_; simp only [ly]
   refine tkJ 9 26 hS1 ?_; simp only [ly]
   refine tkJ 10 27 hS1 ?_; simp only [ly]
   refine tkJ 11 28 hS1 ?_; simp only [ly]
   refine wpAnyH_ready (rs := [12]) (by kernel_rfl) (by simp) ?_
   refine AllReadyH.cons rfl (fun K hK => ?_) AllReadyH.nil
   go_simp
   go_at_call 62
   refine (name16 D k h _ s _ HXU.out hk hs).mono ?_
   rintro e w1 ⟨rfl, hq, hpost⟩
   rw [HNM.out]
   have HP := hide (hpost HNM.out)
   clear hpost
   refine hK.out _ _ ?hs124 (fun hS2 => ?_)
   case hs124 => exact GQ.trans hS1 hq
   clear hK K
   try simp only [ly]
   refine tkJ 13 30 hS2 ?_; simp only [ly]
   refine tkJ 14 6 hS2 ?_; simp only [ly]
   refine wpAnyH_done (by kernel_rfl) ?_ _
   have HQ := hide hS2
   go_wp2
   go_ret
   exact ⟨by rw [HR.out]; rfl, HG.out.trans (HQ.out.more (by omega)), fun _ => HP.out⟩
 ·have HR : Hid (thB3 t3 S s = false) := by unfold Hid thB3; rw [decide_eq_false hle]; rfl
  refine wp_region_held_drew (S := fun W => GQ 3 D u W) (by kernel_rfl) ((GQ.refl 3 D u).drew) (fun hS0 => ?_)
  refine tkJ 0 17 hS0 ?_; simp only [ly]
  refine tkJ 1 18 hS0 ?_; simp only [ly]
  refine tkJ 2 19 hS0 ?_; simp only [ly]
  refine tkJ 3 20 hS0 ?_; simp only [ly]
  refine tkJ 4 21 hS0 ?_; simp only [ly]
  refine tkI 5 22 ?v90 rfl rfl hS0 ?hy90 ?_
  case hy90 => (intro W hW; have e0 := gqcell hW c4 (.inr (Nat.le_refl _)); clear hW; go_simp; try rfl)
  simp only [ly]
  refine tkJ 6 23 hS0 ?_; simp only [ly]
  refine wpAnyH_ready (rs := [7]) (by kernel_rfl) (by simp) ?_
  refine AllReadyH.cons rfl (fun K hK => ?_) AllReadyH.nil
  go_simp
  go_at_call 36
  refine (most16 3 _).mono ?_
  rintro e w1 ⟨rfl, hw9⟩
  have hw8 := hw9.symm
  subst hw8
  clear hw9
  rw [show mostB 3 = 3 from rfl]
  refine hK.out _ _ ?hs92 (fun hS1 => ?_)
  case hs92 => exact hS0
  clear hK K
  try simp only [ly]
  refine tkJ 8 25 hS1 ?_; simp only [ly]
  refine tkJ 9 26 hS1 ?_; simp only [ly]
  refine tkM 10 27 hS1 ?_; simp only [ly]
  refine tkM 11 28 hS1 ?_; simp only [ly]
  refine tkM 12 29 hS1 ?_; simp only [ly]
  refine tkJ 13 30 hS1 ?_; simp only [ly]
  refine tkJ 14 6 hS1 ?_; simp only [ly]
  refine wpAnyH_done (by kernel_rfl) ?_ _
  have HQ := hide hS1
  go_wp2
  go_ret
  exact ⟨by rw [HR.out]; rfl, HG.out.trans (HQ.out.more (by omega)), fun hh => by rw [HR.out] at hh; cases hh⟩
end Go.Proofs.YtomppblgalepjaaGreatDoor

