/- Texts of this claim, joined: AB3, AB4a, K0. -/
import Derived.Deep.RegionHeld3
import Derived.Laws.BytesArg
import Derived.Lib.ConvBytes
import Derived.Deep.SlicePairs
import Derived.Lib.SmallJoins
import Derived.Lib.Bytealg
import Derived.Test.YtkbbegbpkndebaaGreatJ1
import Derived.Test.YtkbbegbpkndebaaGreatJ2
/- What is said of memory and of numbers, gathered (CMath, CCheck, CSet, CRef2, CTurn, DMath, RMath, EMath, EMem, EFun1, EFun3, EEvt, EAhead, EGet3, EClo, EFun2, EOpen, EOrd2, ERef1, SRef1, SClo, SOpen, SOrd, SRef3). -/
namespace Go.Proofs.YtkbbegbpkndebaaGreat
def sumL (a : List Int) : Int := at5 a 0 + at5 a 1 + at5 a 2 + at5 a 3 + at5 a 4
end Go.Proofs.YtkbbegbpkndebaaGreat

namespace Go.Proofs.YtkbbegbpkndebaaGreat
open Go.RowKit
set_option linter.unusedVariables false
end Go.Proofs.YtkbbegbpkndebaaGreat

namespace Go.Proofs.YtkbbegbpkndebaaGreat
open Go.RowKit
set_option linter.unusedVariables false
end Go.Proofs.YtkbbegbpkndebaaGreat

namespace Go.Proofs.YtkbbegbpkndebaaGreat
open Go.RowKit
set_option linter.unusedVariables false
end Go.Proofs.YtkbbegbpkndebaaGreat

namespace Go.Proofs.YtkbbegbpkndebaaGreat
open Go.RowKit
set_option linter.unusedVariables false
end Go.Proofs.YtkbbegbpkndebaaGreat

namespace Go.Proofs.YtkbbegbpkndebaaGreat
end Go.Proofs.YtkbbegbpkndebaaGreat

namespace Go.Proofs.YtkbbegbpkndebaaGreat
theorem pln_vec (c : List Int) (hm : mayC c = true) : pln (vec c) = pln c := by
 have h5 := (mayC_iff.1 hm).1
 have e : vec c = c ++ List.replicate (5 - c.length) 0 := by
  unfold vec
  have : ∀ k, at5 c k = c.getD k 0 := fun k => if_pos hm
  simp only [this]
  match c, h5 with
  | [], _ => rfl
  | [_], _ => rfl
  | [_, _], _ => rfl
  | [_, _, _], _ => rfl
  | [_, _, _, _], _ => rfl
  | [_, _, _, _, _], _ => rfl
 rw [e]
 generalize 5 - c.length = k
 clear e h5 hm
 induction k with
 | zero => simp
 | succ k ih => rw [List.replicate_succ', ← List.append_assoc, pln_zero]; exact ih
end Go.Proofs.YtkbbegbpkndebaaGreat

namespace Go.Proofs.YtkbbegbpkndebaaGreat
abbrev Eff := Int × Int × List Int × Int × Int × List Int
abbrev Evt := Dot × List Int × List Eff
def fits (k n t : Int) (wl : Nat) : Bool := decide (((k = 1 ∨ k = 2) ∧ n = 0 ∧ t = 0 ∧ wl = 0) ∨ ((k = 3 ∨ k = 4) ∧ 1 ≤ n ∧ n ≤ 1000 ∧ t = 0 ∧ wl = 0) ∨ (k = 5 ∧ 1 ≤ n ∧ n ≤ 1000 ∧ 1 ≤ t ∧ t ≤ 5 ∧ wl = 0) ∨ (k = 6 ∧ n = 0 ∧ t = 0 ∧ wl ≤ 64))
def mayF (x : Eff) : Bool := decide (1 ≤ x.2.2.1.length ∧ x.2.2.1.length ≤ 32 ∧ 0 ≤ x.2.1 ∧ x.2.1 ≤ 15) && fits x.1 x.2.2.2.1 x.2.2.2.2.1 x.2.2.2.2.2.length
def plainB (c : List Int) : Bool := mayC c && decide (pln c = c)
def headB (d : Dot) (c : List Int) : Bool := mayD d && plainB c && decide (getZ c d.1 = d.2 - 1)
def mayE (e : Evt) : Bool := headB e.1 e.2.1 && decide (1 ≤ e.2.2.length ∧ e.2.2.length ≤ 16) && e.2.2.all mayF
def ByF (x : Eff) : Prop := By x.2.2.1 ∧ By x.2.2.2.2.2
theorem fits_iff {k n t : Int} {wl : Nat} : fits k n t wl = true ↔ (((k = 1 ∨ k = 2) ∧ n = 0 ∧ t = 0 ∧ wl = 0) ∨ ((k = 3 ∨ k = 4) ∧ 1 ≤ n ∧ n ≤ 1000 ∧ t = 0 ∧ wl = 0) ∨ (k = 5 ∧ 1 ≤ n ∧ n ≤ 1000 ∧ 1 ≤ t ∧ t ≤ 5 ∧ wl = 0) ∨ (k = 6 ∧ n = 0 ∧ t = 0 ∧ wl ≤ 64)) := by simp [fits]
theorem plainB_iff {c : List Int} : plainB c = true ↔ mayC c = true ∧ pln c = c := by simp [plainB]
theorem headB_iff {d : Dot} {c : List Int} : headB d c = true ↔ mayD d = true ∧ (mayC c = true ∧ pln c = c) ∧ getZ c d.1 = d.2 - 1 := by simp [headB, plainB_iff, and_assoc]
theorem mayE_iff {e : Evt} : mayE e = true ↔ headB e.1 e.2.1 = true ∧ (1 ≤ e.2.2.length ∧ e.2.2.length ≤ 16) ∧ ∀ x ∈ e.2.2, mayF x = true := by simp [mayE, and_assoc]
end Go.Proofs.YtkbbegbpkndebaaGreat

namespace Go.Proofs.YtkbbegbpkndebaaGreat
open Go.RowKit
set_option linter.unusedVariables false
section
variable {α : Type}
variable {enc : α → List Value} {k : Nat} {T : TypeId}
end
/-! Strings -/
theorem str_size (l : List Int) : (strOfNums l).size = l.length := strOfNums_size l
theorem str_bytes (s : ByteArray) : strOfNums (bytesL s) = s := by
 obtain ⟨⟨d⟩⟩ := s
 simp [strOfNums, bytesL]
 apply List.ext_getElem
 ·simp
 ·intro i h1 h2; simp
/-! Effects -/
def encF (x : Eff) : List Value := [.int .i64 x.1, .int .i64 x.2.1, .string (strOfNums x.2.2.1), .int .i64 x.2.2.2.1, .int .i64 x.2.2.2.2.1, .string (strOfNums x.2.2.2.2.2)]
def ES (w : World) (a : Option Addr) (n : Nat) (l : List Eff) : Prop := RS encF 6 w a n l ∧ ∀ x ∈ l, ByF x
theorem ES.below {w w' : World} {a : Option Addr} {n : Nat} {l : List Eff} (h : ES w a n l) (hb : Below w.heap.size w w') : ES w' a n l := ⟨h.1.below hb, h.2⟩
theorem ES.alloc {w : World} {a : Option Addr} {n : Nat} {l : List Eff} (h : ES w a n l) (o : Obj) : ES (w.alloc o) a n l := ⟨h.1.alloc o, h.2⟩
theorem ES.at {w : World} {b off n : Nat} {l : List Eff} (h : ES w (some ⟨b, off, none⟩) n l) (i : Nat) (x : Eff) (hi : l[i]? = some x) :
  w.cell? ⟨b, off + i * 6, none⟩ = some (.int .i64 x.1) ∧ w.cell? ⟨b, off + i * 6 + 1, none⟩ = some (.int .i64 x.2.1) ∧ w.cell? ⟨b, off + i * 6 + 2, none⟩ = some (.string (strOfNums x.2.2.1)) ∧ w.cell? ⟨b, off + i * 6 + 3, none⟩ = some (.int .i64 x.2.2.2.1) ∧ w.cell? ⟨b, off + i * 6 + 4, none⟩ = some (.int .i64 x.2.2.2.2.1) ∧ w.cell? ⟨b, off + i * 6 + 5, none⟩ = some (.string (strOfNums x.2.2.2.2.2)) := by
 rcases h.1.2.2 with h0 | ⟨b', off', ha, hc⟩
 ·have := (List.getElem?_eq_some_iff.1 hi).1
  have := h.1.1
  omega
 ·cases ha
  exact ⟨hc i x hi 0 _ rfl, hc i x hi 1 _ rfl, hc i x hi 2 _ rfl, hc i x hi 3 _ rfl, hc i x hi 4 _ rfl, hc i x hi 5 _ rfl⟩
end Go.Proofs.YtkbbegbpkndebaaGreat

namespace Go.Proofs.YtkbbegbpkndebaaGreat
open Go.RowKit
set_option linter.unusedVariables false
def mayS5x (k o n t : Int) (kl wl : Nat) : Bool := decide (1 ≤ kl ∧ kl ≤ 32 ∧ 0 ≤ o ∧ o ≤ 15) && fits k n t wl
theorem mayS5x_iff {k o n t : Int} {kl wl : Nat} : mayS5x k o n t kl wl = true ↔ (1 ≤ kl ∧ kl ≤ 32 ∧ 0 ≤ o ∧ o ≤ 15) ∧ fits k n t wl = true := by simp [mayS5x]
theorem mayF_S (x : Eff) : mayF x = mayS5x x.1 x.2.1 x.2.2.2.1 x.2.2.2.2.1 (strOfNums x.2.2.1).size (strOfNums x.2.2.2.2.2).size := by rw [str_size, str_size]; rfl
theorem toList_length (s : ByteArray) : s.toList.length = s.size := by
 rw [ByteArray.toList_eq]; rfl
theorem isE (s : ByteArray) : s.toList.isEmpty = decide (s.size = 0) := by
 rw [Bool.eq_iff_iff, decide_eq_true_iff, List.isEmpty_iff_length_eq_zero, toList_length]
end Go.Proofs.YtkbbegbpkndebaaGreat

namespace Go.Proofs.YtkbbegbpkndebaaGreat
open Go.RowKit
set_option linter.unusedVariables false
abbrev bxE (r s : Int) (pa : Option Addr) (na ca : Nat) (pe : Option Addr) (ne ce : Nat) : Obj := .cells #[.int .i64 r, .int .i64 s, .slice pa na ca, .slice pe ne ce] 38
theorem allF_drop {l : List Eff} {k : Nat} {x : Eff} (h : l[k]? = some x) : (l.drop k).all mayF = (mayF x && (l.drop (k + 1)).all mayF) := by
 obtain ⟨h1, h2⟩ := List.getElem?_eq_some_iff.1 h
 rw [List.drop_eq_getElem_cons h1, h2, List.all_cons]
theorem not_may1 {r s : Int} {c : List Int} {l : List Eff} (h : mayD (r, s) = false) : mayE ((r, s), c, l) = false := by
 rw [← Bool.not_eq_true, mayE_iff, headB_iff]; rintro ⟨⟨h1, _⟩, _⟩; rw [h] at h1; cases h1
theorem not_may2 {r s : Int} {c : List Int} {l : List Eff} (h : plainB c = false) : mayE ((r, s), c, l) = false := by
 rw [← Bool.not_eq_true, mayE_iff, headB_iff, ← plainB_iff]; rintro ⟨⟨_, h1, _⟩, _⟩; rw [h] at h1; cases h1
theorem not_may3 {r s : Int} {c : List Int} {l : List Eff} (h : ¬ getZ c r = s - 1) : mayE ((r, s), c, l) = false := by
 rw [← Bool.not_eq_true, mayE_iff, headB_iff]; rintro ⟨⟨_, _, h1⟩, _⟩; exact h h1
end Go.Proofs.YtkbbegbpkndebaaGreat

namespace Go.Proofs.YtkbbegbpkndebaaGreat
open Go.RowKit
set_option linter.unusedVariables false
end Go.Proofs.YtkbbegbpkndebaaGreat

namespace Go.Proofs.YtkbbegbpkndebaaGreat
open Go.RowKit
set_option linter.unusedVariables false
end Go.Proofs.YtkbbegbpkndebaaGreat

namespace Go.Proofs.YtkbbegbpkndebaaGreat
open Go.RowKit
set_option linter.unusedVariables false
section
variable {α : Type} {enc : α → List Value} {k : Nat} {T : TypeId}
end
end Go.Proofs.YtkbbegbpkndebaaGreat

namespace Go.Proofs.YtkbbegbpkndebaaGreat
open Go.RowKit
set_option linter.unusedVariables false
end Go.Proofs.YtkbbegbpkndebaaGreat

namespace Go.Proofs.YtkbbegbpkndebaaGreat
open Go.RowKit
set_option linter.unusedVariables false
end Go.Proofs.YtkbbegbpkndebaaGreat

namespace Go.Proofs.YtkbbegbpkndebaaGreat
open Go.RowKit Go.ChangeShapes Go.WideShapes
set_option linter.unusedVariables false
section
variable {H : Type} {enc : TypeId × Value → H} {W : World}
end
end Go.Proofs.YtkbbegbpkndebaaGreat

namespace Go.Proofs.YtkbbegbpkndebaaGreat
open Go.RowKit
set_option linter.unusedVariables false
end Go.Proofs.YtkbbegbpkndebaaGreat

namespace Go.Proofs.YtkbbegbpkndebaaGreat
open Go.RowKit
set_option linter.unusedVariables false
end Go.Proofs.YtkbbegbpkndebaaGreat

namespace Go.Proofs.YtkbbegbpkndebaaGreat
open Go.RowKit
set_option linter.unusedVariables false
end Go.Proofs.YtkbbegbpkndebaaGreat

namespace Go.Proofs.YtkbbegbpkndebaaGreat
open Go.RowKit
set_option linter.unusedVariables false
section
variable {α : Type} [DecidableEq α]
end
end Go.Proofs.YtkbbegbpkndebaaGreat

namespace Go.Proofs.YtkbbegbpkndebaaGreat
open Go.RowKit Go.ChangeShapes Go.WideShapes
set_option linter.unusedVariables false
section
variable {H : Type} {enc : TypeId × Value → H} {W : World}
end
end Go.Proofs.YtkbbegbpkndebaaGreat

namespace Go.Proofs.YtkbbegbpkndebaaGreat
open Go.RowKit Go.Lib Go.Sort
set_option linter.unusedVariables false
end Go.Proofs.YtkbbegbpkndebaaGreat

namespace Go.Proofs.YtkbbegbpkndebaaGreat
open Go.RowKit
set_option linter.unusedVariables false
end Go.Proofs.YtkbbegbpkndebaaGreat

/- What is said of memory and of numbers, gathered (DFun6, DFun7, DAddR). -/
namespace Go.Proofs.YtkbbegbpkndebaaGreat
open Go.RowKit Go.Lib Go.Sort
set_option linter.unusedVariables false
set_option maxHeartbeats 400000 in
set_option maxRecDepth 100000 in
theorem cloneD_any (a : Option Addr) (n cap : Nat) (l : List Dot) (w : World) (hD : DS w a n l) (hn : n ≤ 1000000) :
  Calls Tryz.prog 165 #[.slice a n cap] w fun e w' => ∃ v, e = .returned v ∧ OwnD w.heap.size w' v l ∧ Below w.heap.size w w' := by
 have q22 : ∀ (w : World) (a : Option Addr) (n c n' c' : Nat), (binOp .eql 123 (.slice a n c) (.slice none n' c')).run Tryz.prog w = .ok (.bool a.isNone) w := fun w a n c n' c' => Lib.run_eql_slice_nil w _ _ a n c n' c' Tryz.underlying123
 rcases a with _ | p
 ·have hl : l = [] := by
   rcases hD.2.2 with h0 | ⟨b, off, hh, _⟩
   ·exact List.eq_nil_of_length_eq_zero (by rw [hD.1, h0])
   ·cases hh
  subst hl
  clear hD
  go_enter Tryz.func165, Tryz.ntmps165
  go_wp2
  go_ret
  exact ⟨_, rfl, OwnD.nil _ _, Below.refl _ _⟩
 ·have HD0 := hide hD
  clear hD
  go_enter Tryz.func165, Tryz.ntmps165
  go_wp2_with (at_builtin; refine Stop.at ?_)
  unfold Stop
  refine append_dots rfl _ _ rfl w.heap.size _ [] l rfl (OwnD.made w w.heap.size _ rfl (Nat.le_refl _)) (some p) n cap rfl (fun h => by cases h) (HD0.out.alloc _) (by simp; have := HD0.out.1; omega) (by simp) ?_
  intro v' w' h1 h2
  have HO := hide h1
  have HB := hide (h2 _ (bel1 w _))
  clear h1 h2
  go_wp2
  go_ret
  exact ⟨_, rfl, HO.out, HB.out⟩
theorem clear_dots (w : World) (g kk n c : Nat) (d : Array Dot) (hd : d.size = n) (hH : HD w g d) (hk : kk < n) (ty : TypeId) :
  (Builtin.clear_ #[123] ty #[.slice (some ⟨g, kk * 2, none⟩) (n - kk) c]).run Tryz.prog w = .ok (.tuple #[]) (w.setCells g (kk * 2) (List.replicate ((n - kk) * 2) (.int .i64 0))) := by
 have hv : ∀ w, (zeroValue 33).run Tryz.prog w = .ok (.agg #[.int .i64 0, .int .i64 0]) w := Tryz.zeroValue33
 have hzc : (Builtin.zeroCells (Value.agg #[.int .i64 0, .int .i64 0]).cells (n - kk)).toList = List.replicate ((n - kk) * 2) (Value.int .i64 0) := by
  simp [Builtin.zeroCells, Value.cells]
  apply List.ext_getElem
  ·simp
  ·intro i h1 h2
   rcases Nat.mod_two_eq_zero_or_one i with e | e <;> simp [e]
 have hst := run_storeCells_cells (P := Tryz.prog) g (kk * 2) (List.replicate ((n - kk) * 2) (Value.int .i64 0)) 0 w
  (by
   intro j hj
   rw [List.length_replicate] at hj
   have k := hH (kk + j / 2) (by omega)
   rcases Nat.mod_two_eq_zero_or_one j with e | e
   ·rw [show kk * 2 + 0 + j = (kk + j / 2) * 2 by omega, k.1]; rfl
   ·rw [show kk * 2 + 0 + j = (kk + j / 2) * 2 + 1 by omega, k.2.1]; rfl)
  (by
   intro j hj
   rw [List.length_replicate] at hj
   have k := hH (kk + j / 2) (by omega)
   rcases Nat.mod_two_eq_zero_or_one j with e | e
   ·rw [show kk * 2 + 0 + j = (kk + j / 2) * 2 by omega]; exact k.2.2.1
   ·rw [show kk * 2 + 0 + j = (kk + j / 2) * 2 + 1 by omega]; exact k.2.2.2)
  (by intro v hv'; rw [List.eq_of_mem_replicate hv']; rfl)
 simp only [Nat.add_zero] at hst
 obtain ⟨m, hm⟩ : ∃ m, n - kk = m + 1 := ⟨n - kk - 1, by omega⟩
 rw [hm] at hzc hst ⊢
 simp [Builtin.clear_, run_underlying Tryz.underlying123, hv, hzc, hst]
end Go.Proofs.YtkbbegbpkndebaaGreat

namespace Go.Proofs.YtkbbegbpkndebaaGreat
open Go.RowKit Go.Lib Go.Sort
set_option linter.unusedVariables false
theorem wrapJ {j : Nat} (h : j ≤ 1000000000) : IntKind.i64.wrap (j : Int) = j := by simp [IntKind.wrap, IntKind.bits, IntKind.signed]; omega
theorem bel_setCells {N : Nat} {w0 : World} {g : Nat} (hN : N ≤ g) : ∀ (vs : List Value) (o : Nat) (w : World), Below N w0 w → Below N w0 (w.setCells g o vs)
 | [], _, _, h => h
 | v :: r, o, w, h => bel_setCells hN r (o + 1) _ (h.setCell (p := ⟨g, o, none⟩) hN v)
end Go.Proofs.YtkbbegbpkndebaaGreat

namespace Go.Proofs.YtkbbegbpkndebaaGreat
open Go.RowKit
set_option linter.unusedVariables false
end Go.Proofs.YtkbbegbpkndebaaGreat

/- Keys in order (by their bytes), in plain mathematics. -/
namespace Go.Proofs.YtkbbegbpkndebaaGreat
set_option linter.unusedVariables false

/-! Keys -/
def ltK (a b : ByteArray) : Bool := Op.bytesLess a.toList b.toList
theorem bl_irr : ∀ l : List UInt8, Op.bytesLess l l = false
 | [] => by simp [Op.bytesLess]
 | a :: l => by simp [Op.bytesLess, bl_irr l, UInt8.lt_irrefl]
theorem bl_trans : ∀ {a b c : List UInt8}, Op.bytesLess a b = true → Op.bytesLess b c = true → Op.bytesLess a c = true
 | _, [], _, h, _ => by simp [Op.bytesLess] at h
 | _, _ :: _, [], _, h => by simp [Op.bytesLess] at h
 | [], _ :: _, _ :: _, _, _ => by simp [Op.bytesLess]
 | x :: a, y :: b, z :: c, h, k => by
  simp only [Op.bytesLess, Bool.or_eq_true, decide_eq_true_eq, Bool.and_eq_true, beq_iff_eq] at h k ⊢
  rcases h with h | ⟨rfl, h⟩
  ·rcases k with k | ⟨rfl, k⟩
   ·exact .inl (UInt8.lt_trans h k)
   ·exact .inl h
  ·rcases k with k | ⟨rfl, k⟩
   ·exact .inl k
   ·exact .inr ⟨rfl, bl_trans h k⟩
theorem bl_tri : ∀ (a b : List UInt8), Op.bytesLess a b = false → Op.bytesLess b a = false → a = b
 | [], [], _, _ => rfl
 | [], _ :: _, h, _ => by simp [Op.bytesLess] at h
 | _ :: _, [], _, h => by simp [Op.bytesLess] at h
 | x :: a, y :: b, h, k => by
  simp only [Op.bytesLess, Bool.or_eq_false_iff, decide_eq_false_iff_not, Bool.and_eq_false_iff] at h k
  have e : x = y := UInt8.le_antisymm (UInt8.not_lt.1 k.1) (UInt8.not_lt.1 h.1)
  subst e
  rw [bl_tri a b (by simpa using h.2) (by simpa using k.2)]
theorem toL_inj {a b : ByteArray} (h : a.toList = b.toList) : a = b := by
 rw [ByteArray.toList_eq, ByteArray.toList_eq] at h
 obtain ⟨⟨x⟩⟩ := a
 obtain ⟨⟨y⟩⟩ := b
 simpa using h
theorem eqK (a b : ByteArray) : (a.toList == b.toList) = decide (a = b) := by
 rw [Bool.eq_iff_iff, beq_iff_eq, decide_eq_true_iff]
 exact ⟨toL_inj, fun h => by rw [h]⟩
theorem ltK_irr (a : ByteArray) : ltK a a = false := bl_irr _
theorem ltK_trans {a b c : ByteArray} (h : ltK a b = true) (k : ltK b c = true) : ltK a c = true := bl_trans h k
theorem ltK_tri {a b : ByteArray} (h : ltK a b = false) (k : ltK b a = false) : a = b := toL_inj (bl_tri _ _ h k)
theorem ltK_ne {a b : ByteArray} (h : ltK a b = true) : a ≠ b := by
 rintro rfl
 rw [ltK_irr] at h
 cases h
theorem ltK_asym {a b : ByteArray} (h : ltK a b = true) : ltK b a = false := by
 rcases hb : ltK b a with _ | _
 ·rfl
 ·have := ltK_trans h hb
  rw [ltK_irr] at this
  cases this
def cmpK (a b : ByteArray) : Int := if a = b then 0 else if ltK a b = true then -1 else 1
theorem cmpB : ∀ (a b : List UInt8), Lib.compareBytes a b = if a = b then 0 else if Op.bytesLess a b = true then -1 else 1
 | [], [] => by simp [Lib.compareBytes]
 | [], _ :: _ => by simp [Lib.compareBytes, Op.bytesLess]
 | _ :: _, [] => by simp [Lib.compareBytes, Op.bytesLess]
 | x :: a, y :: b => by
  unfold Lib.compareBytes
  rw [cmpB a b]
  by_cases h : x < y
  ·have : x ≠ y := fun e => by subst e; exact UInt8.lt_irrefl _ h
   simp [h, Op.bytesLess, this]
  ·by_cases k : y < x
   ·have : x ≠ y := fun e => by subst e; exact UInt8.lt_irrefl _ k
    simp [h, k, Op.bytesLess, this]
   ·have e : x = y := UInt8.le_antisymm (UInt8.not_lt.1 k) (UInt8.not_lt.1 h)
    subst e
    simp [Op.bytesLess, UInt8.lt_irrefl]
theorem cmpK_is (a b : ByteArray) : Lib.compareBytes a.data.toList b.data.toList = cmpK a b := by
 rw [cmpB, cmpK, ltK, ByteArray.toList_eq, ByteArray.toList_eq]
 have : a.data.toList = b.data.toList ↔ a = b := ⟨fun h => toL_inj (by rw [ByteArray.toList_eq, ByteArray.toList_eq]; exact h), fun h => by rw [h]⟩
 simp only [this]
theorem cmpK_lt (a b : ByteArray) : (cmpK a b < 0) ↔ ltK a b = true := by
 unfold cmpK
 split
 ·rename_i h; subst h; simp [ltK_irr]
 ·split <;> simp_all
theorem cmpK_eq (a b : ByteArray) : (cmpK a b = 0) ↔ a = b := by
 unfold cmpK
 split
 ·simp_all
 ·split <;> simp_all
def mayK (k : ByteArray) : Bool := decide (1 ≤ k.size ∧ k.size ≤ 32)
end Go.Proofs.YtkbbegbpkndebaaGreat

