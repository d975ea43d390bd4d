/- Texts of this claim, joined: GBase. -/
import Derived.Laws.Bits64
import Derived.Test.YtomppblgalepjaaGreatDoorRows
import Derived.WalkKit
import Derived.WalkSpells
import Derived.WalkLawsBesides
import Derived.Handy
import Derived.Lib.SlBytesConst
import Derived.Laws.AppendOwnNone
import Derived.Laws.BytesArg
import Derived.Deep.RegionHeld3
import Derived.Laws.CopyOwn
import Derived.Laws.Rows
import Derived.Deep.WholeRow
import Derived.SizedLaws
import Derived.OpenShut
import Derived.ProofKit
import Derived.Sort.Grow
import Derived.Deep.Draws
import Derived.Lib.SlicesCompact
import Derived.Lib.SliceRun
import Derived.ArgAppend
import Derived.Deep.RegionWith
import Derived.Lib.ConvBytes
import Derived.Deep.SlicePairs
import Derived.Lib.SmallJoins
import Derived.Deep.Matrix
/- What is said of memory and of numbers, gathered (Math, Base, Of, Cut, WMath, WOwn, CMath, CNum, CCheck, CArr, CFun, CJoinAll, CLaw, DMath, DMem, DFun1, DOrd, DFun6, DFun8, DPut, DAddR, DVar, DOne, WNum, WGet, WRefGet, WText, WUnpack, EMem, EEvt, EGet1, EGet2, EGet3, EClo, EFun4, EOpen, EOrd2, ERef2, ERef3, Lay, SSort, SOrd, SRef2, Turn, WOpen, WHeld, WGetRec). -/
namespace Go.Proofs.YtomppblgalepjaaGreatDoor
def stp (r b : Int) : Int := if (r / 2147483648 != b) = true then bits .xor .u32 (r * 2 % 4294967296) 79764919 else r * 2 % 4294967296
def fd : Nat → Int → Int → Int
 | 0, r, _ => r
 | k + 1, r, o => fd k (stp r (o / 128)) (o * 2 % 256)
def feed (r o : Int) : Int := fd 8 r o
def cpl (r : Int) : Int := bits .xor .u32 IntKind.u32.max r
def on (s : Int) (l : List Int) : Int := cpl (l.foldl feed (cpl s))
def of (ps : List (List Int)) : Int := ps.foldl on 0
end Go.Proofs.YtomppblgalepjaaGreatDoor

namespace Go.Proofs.YtomppblgalepjaaGreatDoor
open Go.RowKit
theorem hide {p : Prop} (h : p) : Hid p := h
end Go.Proofs.YtomppblgalepjaaGreatDoor

namespace Go.Proofs.YtomppblgalepjaaGreatDoor
open Go.RowKit
def Ext (w w' : World) : Prop := ∀ p v, w.cell? p = some v → w'.cell? p = some v
theorem Ext.refl (w : World) : Ext w w := fun _ _ h => h
theorem Ext.alloc {a w : World} (h : Ext a w) (o : Obj) : Ext a (w.alloc o) := fun p v hp => Lib.cell?_alloc_marked o (h p v hp)
theorem Ext.below {a w w' : World} (h : Ext a w) (hb : Below w.heap.size w w') : Ext a w' := fun p v hp => by
 have h1 := h p v hp
 have hlt : p.block < w.heap.size := by
  rcases Nat.lt_or_ge p.block w.heap.size with h' | h'
  ·exact h'
  ·simp [World.cell?, Array.getElem?_eq_none h'] at h1
 rw [hb.cell hlt]; exact h1
end Go.Proofs.YtomppblgalepjaaGreatDoor

namespace Go.Proofs.YtomppblgalepjaaGreatDoor
open Go.RowKit
end Go.Proofs.YtomppblgalepjaaGreatDoor

namespace Go.Proofs.YtomppblgalepjaaGreatDoor
def By (l : List Int) : Prop := ∀ n ∈ l, 0 ≤ n ∧ n < 256
def be : Nat → Int → List Int
 | 0, _ => []
 | k + 1, x => (x / 256 ^ k % 256) :: be k x
end Go.Proofs.YtomppblgalepjaaGreatDoor

namespace Go.Proofs.YtomppblgalepjaaGreatDoor
open Go.RowKit
def CP (p : Option Addr) (len cap : Nat) : Prop := len ≤ cap ∧ cap ≤ maxLen ∧ (p = none → cap = 0)
def Stop (p : Prop) : Prop := p
theorem Stop.at {p : Prop} (h : Stop p) : p := h
end Go.Proofs.YtomppblgalepjaaGreatDoor

namespace Go.Proofs.YtomppblgalepjaaGreatDoor
end Go.Proofs.YtomppblgalepjaaGreatDoor

namespace Go.Proofs.YtomppblgalepjaaGreatDoor
open Go.RowKit
set_option linter.unusedVariables false
end Go.Proofs.YtomppblgalepjaaGreatDoor

namespace Go.Proofs.YtomppblgalepjaaGreatDoor
open Go.RowKit
set_option linter.unusedVariables false
theorem retB {a b : Bool} (h : a = b) : Ending.returned (.bool a) = .returned (.bool b) := by rw [h]
end Go.Proofs.YtomppblgalepjaaGreatDoor

namespace Go.Proofs.YtomppblgalepjaaGreatDoor
open Go.RowKit
set_option linter.unusedVariables false
theorem bel1 (w : World) (A : Obj) : Below w.heap.size w (w.alloc A) := (Below.refl _ _).alloc (Nat.le_refl _) _
theorem bel2 (w : World) (A B : Obj) : Below w.heap.size w ((w.alloc A).alloc B) := (bel1 w A).alloc (by simp) _
end Go.Proofs.YtomppblgalepjaaGreatDoor

namespace Go.Proofs.YtomppblgalepjaaGreatDoor
open Go.RowKit
set_option linter.unusedVariables false
theorem bel_next {w w1 w2 : World} (h1 : Below w.heap.size w w1) (h2 : Below w1.heap.size w1 w2) : Below w.heap.size w w2 := h1.trans (h2.mono h1.size)
end Go.Proofs.YtomppblgalepjaaGreatDoor

namespace Go.Proofs.YtomppblgalepjaaGreatDoor
open Go.RowKit
set_option linter.unusedVariables false
theorem set1 {W0 W : World} {B g : Nat} {cur : Array Value} {t : TypeId} (hg : W.heap[g]? = some (.cells cur t (0, 0))) (hb : Below B W0 W) (hB : B ≤ g) (i : Nat) (v : Value) :
  (W.setCell ⟨g, i, none⟩ v).heap[g]? = some (.cells (cur.setIfInBounds i v) t (0, 0)) ∧ Below B W0 (W.setCell ⟨g, i, none⟩ v) := by
 refine ⟨?_, hb.setCell hB _⟩
 simp [World.setCell, Array.getElem?_modify, hg]
end Go.Proofs.YtomppblgalepjaaGreatDoor

namespace Go.Proofs.YtomppblgalepjaaGreatDoor
open Go.RowKit Go.ChangeShapes Go.WideShapes
set_option linter.unusedVariables false
end Go.Proofs.YtomppblgalepjaaGreatDoor

namespace Go.Proofs.YtomppblgalepjaaGreatDoor
end Go.Proofs.YtomppblgalepjaaGreatDoor

namespace Go.Proofs.YtomppblgalepjaaGreatDoor
open Go.RowKit
set_option linter.unusedVariables false
theorem bcell {u W : World} (hb : Below u.heap.size u W) {p : Addr} {v : Value} (h : u.cell? p = some v) : W.cell? p = some v := by
 rw [hb.cell (World.block_lt_of_cell? u _ h)]; exact h
end Go.Proofs.YtomppblgalepjaaGreatDoor

namespace Go.Proofs.YtomppblgalepjaaGreatDoor
open Go.RowKit
set_option linter.unusedVariables false
theorem takeInH {P : Program} {md : Region.Mode} {ops : Array Oper} {Q : Exit → Act → World → Prop} {S : World → Prop} (i d : Nat) (v : Value) {oi : Oper} {fuel : Nat} {listed : Array Bool} {a : Act} {w : World} (hi : ops[i]? = some oi) (hd : oi.dst = some d)
  (hs : Region.noSelect ops = true) (hf : Region.free md ops listed i = true) (hr : (Region.ready md ops listed).contains i = true)
  (hQ : ∀ c a w, Q (.panic c) (a.put oi.dst v) w → Q (.panic c) a w) (hw : Region.wanted oi (yielded ops a.tmps) = true) (hS : S w) (hy : ∀ w, S w → (execOp a.eval oi).run P w = .ok (.value v) w)
  (h : wpAnyH P md ops Q S fuel (listed.setIfInBounds i true) (a.put (some d) v) w) : wpAnyH P md ops Q S (fuel + 1) listed a w :=
 wpAnyH_take hi hs hf hr hQ (Or.inl ⟨hw, hy⟩) hS (by rw [hd]; exact h)
theorem takeNoH {P : Program} {md : Region.Mode} {ops : Array Oper} {Q : Exit → Act → World → Prop} {S : World → Prop} (i d : Nat) {oi : Oper} {fuel : Nat} {listed : Array Bool} {a : Act} {w : World} (hi : ops[i]? = some oi) (hd : oi.dst = some d)
  (hs : Region.noSelect ops = true) (hf : Region.free md ops listed i = true) (hr : (Region.ready md ops listed).contains i = true)
  (hQ : ∀ c a w, Q (.panic c) (a.put oi.dst undef) w → Q (.panic c) a w) (hw : Region.wanted oi (yielded ops a.tmps) = false) (hS : S w)
  (h : wpAnyH P md ops Q S fuel (listed.setIfInBounds i true) (a.put (some d) undef) w) : wpAnyH P md ops Q S (fuel + 1) listed a w :=
 wpAnyH_take hi hs hf hr hQ (Or.inr ⟨hw, rfl⟩) hS (by rw [hd]; exact h)
theorem ly : (∀ (a : Act) (d : Nat) (v : Value), a.put (some d) v = { a with tmps := a.tmps.setIfInBounds d v }) ∧ (∀ {α : Type} (l : List α) (i : Nat) (x : α), l.toArray.setIfInBounds i x = (l.set i x).toArray) ∧ (∀ {α : Type} (x y : α) (l : List α), (x :: l).set 0 y = y :: l) ∧ (∀ {α : Type} (x y : α) (l : List α) (i : Nat), (x :: l).set (i + 1) y = x :: l.set i y) :=
 ⟨fun _ _ _ => rfl, fun l i x => List.setIfInBounds_toArray .., fun _ _ _ => rfl, fun _ _ _ _ => rfl⟩
theorem lyF : (∀ (a : Act) (d : Nat) (v : Value), a.put (some d) v = { a with tmps := a.tmps.setIfInBounds d v }) ∧ (∀ {α : Type} (l : List α) (i : Nat) (x : α), l.toArray.setIfInBounds i x = (l.set i x).toArray) ∧ (∀ {α : Type} (x y : α) (l : List α), (x :: l).set 0 y = y :: l) ∧ (∀ {α : Type} (x y : α) (l : List α) (i : Nat), (x :: l).set (i + 1) y = x :: l.set i y) := ly
theorem tkI {P : Program} {md : Region.Mode} {ops : Array Oper} {Q : Exit → Act → World → Prop} {S : World → Prop} (i d : Nat) (v : Value) {oi : Oper} {fuel : Nat} {listed : Array Bool} {a : Act} {w : World} (hi : ops[i]? = some oi) (hd : oi.dst = some d) (hS : S w) (hy : ∀ w, S w → (execOp a.eval oi).run P w = .ok (.value v) w)
  (h : wpAnyH P md ops Q S fuel (listed.setIfInBounds i true) (a.put (some d) v) w) (hs : Region.noSelect ops = true := by kernel_rfl) (hf : Region.free md ops listed i = true := by kernel_rfl) (hr : (Region.ready md ops listed).contains i = true := by kernel_rfl)
  (hQ : ∀ c a w, Q (.panic c) (a.put oi.dst v) w → Q (.panic c) a w := by exact fun _ _ _ h => h) (hw : Region.wanted oi (yielded ops a.tmps) = true := by kernel_rfl) : wpAnyH P md ops Q S (fuel + 1) listed a w := takeInH i d v hi hd hs hf hr hQ hw hS hy h
theorem tkN {P : Program} {md : Region.Mode} {ops : Array Oper} {Q : Exit → Act → World → Prop} {S : World → Prop} (i d : Nat) {oi : Oper} {fuel : Nat} {listed : Array Bool} {a : Act} {w : World} (hi : ops[i]? = some oi) (hd : oi.dst = some d) (hS : S w)
  (h : wpAnyH P md ops Q S fuel (listed.setIfInBounds i true) (a.put (some d) undef) w) (hs : Region.noSelect ops = true := by kernel_rfl) (hf : Region.free md ops listed i = true := by kernel_rfl) (hr : (Region.ready md ops listed).contains i = true := by kernel_rfl)
  (hQ : ∀ c a w, Q (.panic c) (a.put oi.dst undef) w → Q (.panic c) a w := by exact fun _ _ _ h => h) (hw : Region.wanted oi (yielded ops a.tmps) = false := by kernel_rfl) : wpAnyH P md ops Q S (fuel + 1) listed a w := takeNoH i d hi hd hs hf hr hQ hw hS h

theorem tkJ {P : Program} {md : Region.Mode} {ops : Array Oper} {Q : Exit → Act → World → Prop} {S : World → Prop} (i d : Nat) {v : Value} {oi : Oper} {fuel : Nat} {listed : Array Bool} {a : Act} {w : World} (hS : S w)
  (h : wpAnyH P md ops Q S fuel (listed.setIfInBounds i true) (a.put (some d) v) w) (hi : ops[i]? = some oi := by rfl) (hd : oi.dst = some d := by rfl) (hy : ∀ w, S w → (execOp a.eval oi).run P w = .ok (.value v) w := by (intro W hW; clear hW; go_simp; try rfl)) (hs : Region.noSelect ops = true := by kernel_rfl) (hf : Region.free md ops listed i = true := by kernel_rfl) (hr : (Region.ready md ops listed).contains i = true := by kernel_rfl)
  (hQ : ∀ c a w, Q (.panic c) (a.put oi.dst v) w → Q (.panic c) a w := by exact fun _ _ _ h => h) (hw : Region.wanted oi (yielded ops a.tmps) = true := by kernel_rfl) : wpAnyH P md ops Q S (fuel + 1) listed a w := takeInH i d v hi hd hs hf hr hQ hw hS hy h
theorem tkL {P : Program} {md : Region.Mode} {ops : Array Oper} {Q : Exit → Act → World → Prop} {S : World → Prop} (i d : Nat) {v : Value} {oi : Oper} {fuel : Nat} {listed : Array Bool} {a : Act} {w : World} (hS : S w) (hy : ∀ w, S w → (execOp a.eval oi).run P w = .ok (.value v) w)
  (h : wpAnyH P md ops Q S fuel (listed.setIfInBounds i true) (a.put (some d) v) w) (hi : ops[i]? = some oi := by rfl) (hd : oi.dst = some d := by rfl) (hs : Region.noSelect ops = true := by kernel_rfl) (hf : Region.free md ops listed i = true := by kernel_rfl) (hr : (Region.ready md ops listed).contains i = true := by kernel_rfl)
  (hQ : ∀ c a w, Q (.panic c) (a.put oi.dst v) w → Q (.panic c) a w := by exact fun _ _ _ h => h) (hw : Region.wanted oi (yielded ops a.tmps) = true := by kernel_rfl) : wpAnyH P md ops Q S (fuel + 1) listed a w := takeInH i d v hi hd hs hf hr hQ hw hS hy h
theorem tkM {P : Program} {md : Region.Mode} {ops : Array Oper} {Q : Exit → Act → World → Prop} {S : World → Prop} (i d : Nat) {oi : Oper} {fuel : Nat} {listed : Array Bool} {a : Act} {w : World} (hS : S w)
  (h : wpAnyH P md ops Q S fuel (listed.setIfInBounds i true) (a.put (some d) undef) w) (hi : ops[i]? = some oi := by rfl) (hd : oi.dst = some d := by rfl) (hs : Region.noSelect ops = true := by kernel_rfl) (hf : Region.free md ops listed i = true := by kernel_rfl) (hr : (Region.ready md ops listed).contains i = true := by kernel_rfl)
  (hQ : ∀ c a w, Q (.panic c) (a.put oi.dst undef) w → Q (.panic c) a w := by exact fun _ _ _ h => h) (hw : Region.wanted oi (yielded ops a.tmps) = false := by kernel_rfl) : wpAnyH P md ops Q S (fuel + 1) listed a w := takeNoH i d hi hd hs hf hr hQ hw hS h

theorem cell_old {w : World} (o : Obj) {p : Addr} {v : Value} (h : w.cell? p = some v) : (w.alloc o).cell? p = some v := bcell (bel1 w o) h
end Go.Proofs.YtomppblgalepjaaGreatDoor

namespace Go.Proofs.YtomppblgalepjaaGreatDoor
open Go.RowKit Go.Lib Go.Sort
set_option linter.unusedVariables false
end Go.Proofs.YtomppblgalepjaaGreatDoor

namespace Go.Proofs.YtomppblgalepjaaGreatDoor
open Go.RowKit Go.Lib Go.Sort
set_option linter.unusedVariables false
end Go.Proofs.YtomppblgalepjaaGreatDoor

namespace Go.Proofs.YtomppblgalepjaaGreatDoor
open Go.RowKit Go.Lib Go.Sort
set_option linter.unusedVariables false
end Go.Proofs.YtomppblgalepjaaGreatDoor

namespace Go.Proofs.YtomppblgalepjaaGreatDoor
open Go.RowKit
set_option linter.unusedVariables false
end Go.Proofs.YtomppblgalepjaaGreatDoor

namespace Go.Proofs.YtomppblgalepjaaGreatDoor
open Go.RowKit
set_option linter.unusedVariables false
end Go.Proofs.YtomppblgalepjaaGreatDoor

namespace Go.Proofs.YtomppblgalepjaaGreatDoor
open Go.RowKit
set_option linter.unusedVariables false
end Go.Proofs.YtomppblgalepjaaGreatDoor

namespace Go.Proofs.YtomppblgalepjaaGreatDoor
open Go.RowKit Go.ChangeShapes Go.WideShapes
set_option linter.unusedVariables false
end Go.Proofs.YtomppblgalepjaaGreatDoor

namespace Go.Proofs.YtomppblgalepjaaGreatDoor
open Go.RowKit
set_option linter.unusedVariables false
end Go.Proofs.YtomppblgalepjaaGreatDoor

namespace Go.Proofs.YtomppblgalepjaaGreatDoor
open Go.RowKit
set_option linter.unusedVariables false
end Go.Proofs.YtomppblgalepjaaGreatDoor

namespace Go.Proofs.YtomppblgalepjaaGreatDoor
open Go.RowKit
set_option linter.unusedVariables false
end Go.Proofs.YtomppblgalepjaaGreatDoor

namespace Go.Proofs.YtomppblgalepjaaGreatDoor
open Go.RowKit
set_option linter.unusedVariables false
end Go.Proofs.YtomppblgalepjaaGreatDoor

namespace Go.Proofs.YtomppblgalepjaaGreatDoor
open Go.RowKit
set_option linter.unusedVariables false
end Go.Proofs.YtomppblgalepjaaGreatDoor

namespace Go.Proofs.YtomppblgalepjaaGreatDoor
open Go.RowKit
set_option linter.unusedVariables false
section
variable {α : Type}
theorem flatR_len (enc : α → List Value) (k : Nat) (hk : ∀ x, (enc x).length = k) : ∀ l : List α, (l.flatMap enc).length = l.length * k
 | [] => by simp
 | x :: r => by rw [List.flatMap_cons, List.length_append, hk, flatR_len enc k hk r, List.length_cons, Nat.succ_mul]; omega
theorem flatR_get (enc : α → List Value) (k : Nat) (hk : ∀ x, (enc x).length = k) : ∀ (l : List α) (i : Nat) (x : α) (j : Nat) (v : Value), l[i]? = some x → (enc x)[j]? = some v → (l.flatMap enc)[i * k + j]? = some v
 | [], i, x, j, v, h, _ => by simp at h
 | y :: r, 0, x, j, v, h, hj => by
  simp at h
  subst h
  have hl : j < (enc y).length := by
   rcases Nat.lt_or_ge j (enc y).length with h | h
   ·exact h
   ·rw [List.getElem?_eq_none h] at hj; cases hj
  rw [List.flatMap_cons, Nat.zero_mul, Nat.zero_add, List.getElem?_append_left hl]
  exact hj
 | y :: r, i + 1, x, j, v, h, hj => by
  have ih := flatR_get enc k hk r i x j v (by simpa using h) hj
  rw [List.flatMap_cons, List.getElem?_append_right (by rw [hk, Nat.succ_mul]; omega), hk, show (i + 1) * k + j - k = i * k + j by rw [Nat.succ_mul]; omega]
  exact ih
theorem flatR_one (enc : α → List Value) (h1 : ∀ x, ∀ v ∈ enc x, v.oneCell' = true) (l : List α) : ∀ v ∈ l.flatMap enc, v.oneCell' = true := by
 intro v hv
 obtain ⟨x, _, hx⟩ := List.mem_flatMap.1 hv
 exact h1 x v hx
theorem flatR_lt {k n i j : Nat} (hi : i < n) (hj : j < k) : i * k + j < n * k := by
 have : (i + 1) * k ≤ n * k := Nat.mul_le_mul_right k hi
 rw [Nat.succ_mul] at this
 omega
def RS (enc : α → List Value) (k : Nat) (w : World) (a : Option Addr) (n : Nat) (l : List α) : Prop :=
 l.length = n ∧ n ≤ maxLen ∧ (n = 0 ∨ ∃ b off, a = some ⟨b, off, none⟩ ∧ ∀ i x, l[i]? = some x → ∀ j v, (enc x)[j]? = some v → w.cell? ⟨b, off + i * k + j, none⟩ = some v)
def OwnR (enc : α → List Value) (k : Nat) (T : TypeId) (N : Nat) (w : World) (v : Value) (l : List α) : Prop := w.ownsRow N T k v l.length (l.flatMap enc)
variable {enc : α → List Value} {k : Nat} {T : TypeId}
theorem RS.ext {w w' : World} {a : Option Addr} {n : Nat} {l : List α} (h : RS enc k w a n l) (hx : Ext w w') : RS enc k w' a n l := by
 obtain ⟨h1, h2, h4⟩ := h
 refine ⟨h1, h2, ?_⟩
 rcases h4 with h0 | ⟨b, off, ha, hc⟩
 ·exact .inl h0
 ·exact .inr ⟨b, off, ha, fun i x hi j v hj => hx _ _ (hc i x hi j v hj)⟩
theorem RS.below {w w' : World} {a : Option Addr} {n : Nat} {l : List α} (h : RS enc k w a n l) (hb : Below w.heap.size w w') : RS enc k w' a n l := h.ext ((Ext.refl w).below hb)
theorem RS.alloc {w : World} {a : Option Addr} {n : Nat} {l : List α} (h : RS enc k w a n l) (o : Obj) : RS enc k (w.alloc o) a n l := h.ext ((Ext.refl w).alloc o)
theorem RS.nil (w : World) (p : Option Addr) : RS enc k w p 0 [] := ⟨rfl, by decide, .inl rfl⟩
theorem RS.new (hk : ∀ x, (enc x).length = k) (w : World) (g : Nat) (hg : g = w.heap.size) (l : List α) (C : Array Value) (hC : C = (l.flatMap enc).toArray) (t : TypeId) (fr : Nat × Nat) (n : Nat) (hn : l.length = n) (hmax : n ≤ maxLen) :
  RS enc k (w.alloc (.cells C t fr)) (some ⟨g, 0, none⟩) n l := by
 subst hg hC hn
 refine ⟨rfl, hmax, .inr ⟨_, 0, rfl, fun i x hi j v hj => ?_⟩⟩
 have h := flatR_get enc k hk l i x j v hi hj
 rw [World.cell?_alloc_mark, Nat.zero_add]
 simpa using h
theorem RS.mid {w : World} {b off : Nat} {n : Nat} {l : List α} (h : RS enc k w (some ⟨b, off, none⟩) n l) (i : Nat) (hi : i ≤ n) : RS enc k w (some ⟨b, off + i * k, none⟩) (n - i) (l.drop i) := by
 obtain ⟨h1, h2, h4⟩ := h
 refine ⟨by rw [List.length_drop]; omega, by omega, ?_⟩
 rcases h4 with h0 | ⟨b', off', ha, hc⟩
 ·exact .inl (by omega)
 ·cases ha
  refine .inr ⟨b, off + i * k, rfl, fun i' x hi' j v hj => ?_⟩
  rw [List.getElem?_drop] at hi'
  have := hc (i + i') x hi' j v hj
  rw [Nat.add_mul] at this
  rw [show off + i * k + i' * k + j = off + (i * k + i' * k) + j by omega]
  exact this
theorem OwnR.mono {N N' : Nat} {w : World} {v : Value} {l : List α} (h : OwnR enc k T N w v l) (hN : N' ≤ N) : OwnR enc k T N' w v l := ⟨h.1, h.2.imp id fun ⟨g, cap, cur, h1, h2, h3⟩ => ⟨g, cap, cur, h1, Nat.le_trans hN h2, h3⟩⟩
theorem OwnR.below {N : Nat} {w w' : World} {v : Value} {l : List α} (h : OwnR enc k T N w v l) (hb : Below w.heap.size w w') : OwnR enc k T N w' v l := by
 refine ⟨h.1, ?_⟩
 rcases h.2 with hn | ⟨g, cap, cur, rfl, hb', hgg, rest⟩
 ·exact .inl hn
 ·refine .inr ⟨g, cap, cur, rfl, hb', ?_, rest⟩
  rw [hb.block g (Array.getElem?_eq_some_iff.1 hgg).1]
  exact hgg
theorem OwnR.nil (N : Nat) (w : World) : OwnR enc k T N w (.slice none 0 0) [] := ⟨by simp, .inl ⟨rfl, rfl⟩⟩
theorem OwnR.open (hk : ∀ x, (enc x).length = k) {N : Nat} {w : World} {v : Value} {l : List α} (h : OwnR enc k T N w v l) : ∃ p cap, v = .slice p l.length cap ∧ RS enc k w p l.length l ∧ CP p l.length cap := by
 have h0 := h
 obtain ⟨_, h2⟩ := h
 rcases h2 with ⟨rfl, h2⟩ | ⟨g, cap, cur, rfl, hb, hg, hc1, hc2, hs, ht⟩
 ·exact ⟨none, 0, by rw [h2], ⟨rfl, by rw [h2]; decide, .inl h2⟩, by omega, by decide, fun _ => rfl⟩
 ·refine ⟨some ⟨g, 0, none⟩, cap, rfl, ⟨rfl, by omega, .inr ⟨g, 0, rfl, fun i x hi j u hj => ?_⟩⟩, hc1, hc2, fun h => by cases h⟩
  have hil : i < l.length := (List.getElem?_eq_some_iff.1 hi).1
  have hjl : j < k := by rw [← hk x]; exact (List.getElem?_eq_some_iff.1 hj).1
  rw [Nat.zero_add, World.ownsRow.cellAt h0 (i * k + j) (flatR_lt hil hjl)]
  exact flatR_get enc k hk l i x j u hi hj
theorem OwnR.made (w : World) (N g : Nat) (hg : g = w.heap.size) (hN : N ≤ w.heap.size) : OwnR enc k T N (w.alloc (.cells #[] T)) (.slice (some ⟨g, 0, none⟩) 0 0) [] := by
 subst hg; exact World.ownsRow_made w #[] 0 hN (by decide) (by simp)
theorem RS.cells {w : World} {b off : Nat} {n : Nat} {l : List α} (h : RS enc k w (some ⟨b, off, none⟩) n l) (j : Nat) (u : Value) (hj : (l.flatMap enc)[j]? = some u) (hk : ∀ x, (enc x).length = k) (hk0 : 0 < k) : w.cell? ⟨b, off + j, none⟩ = some u := by
 have hjl : j < l.length * k := by rw [← flatR_len enc k hk l]; exact (List.getElem?_eq_some_iff.1 hj).1
 have hi : j / k < l.length := Nat.div_lt_of_lt_mul (by rw [Nat.mul_comm]; exact hjl)
 have hm : j % k < k := Nat.mod_lt _ hk0
 have e : j / k * k + j % k = j := by rw [Nat.mul_comm]; exact Nat.div_add_mod j k
 rcases h.2.2 with h0 | ⟨b', off', ha, hc⟩
 ·rw [h.1, h0] at hi; exact absurd hi (Nat.not_lt_zero _)
 ·cases ha
  have hx : l[j / k]? = some l[j / k] := List.getElem?_eq_getElem hi
  have hy : (enc l[j / k])[j % k]? = some ((enc l[j / k])[j % k]'(by rw [hk]; exact hm)) := List.getElem?_eq_getElem _
  have q := flatR_get enc k hk l _ _ _ _ hx hy
  rw [e, hj] at q
  cases q
  have := hc _ _ hx _ _ hy
  rw [Nat.add_assoc, e] at this
  exact this
theorem append_rows {w : World} {ops : Array Oper} {rest : List Oper} {o : Oper} {a : Act} {Q : Exit → Act → World → Prop} (hgd : o.guard = none) (s x : Operand) (t : TypeId)
  (ho : o.op = .call { callee := .builtin .append, args := #[s, x], argTypes := #[t, t] })
  (ht : Tryz.prog.underlying t = some (.slice T)) {z : Value} {by_ : Nat} (hi : (Tryz.prog.info? T).map (fun i => (i.zero, i.size, i.bytes)) = some (some z, k, by_)) (hz : z.cells.size = k) (hk0 : 0 < k) (hby : by_ ≤ 1000)
  (hk : ∀ x, (enc x).length = k) (h1 : ∀ x, ∀ v ∈ enc x, v.oneCell' = true)
  (N : Nat) (v : Value) (l m : List α) (hs : a.eval s = v) (hown : OwnR enc k T N w v l) (p : Option Addr) (len cap : Nat) (hx : a.eval x = .slice p len cap) (hp : p = none → cap = 0) (hB : RS enc k w p len m)
  (hbig : l.length + m.length ≤ 1000000) (hN : N ≤ w.heap.size)
  (h : ∀ v' w', OwnR enc k T N w' v' (l ++ m) → w.grownBy w' v.ownBlock → (∀ w0, Below N w0 w → Below N w0 w') → wpList Tryz.prog ops Q rest (a.put o.dst v') w') : wpList Tryz.prog ops Q (o :: rest) a w := by
 obtain ⟨i0, hi, hz0, hz1, hz2⟩ := info_parts hi
 have g1 := hB.1
 rcases p with _ | ad
 ·have hc := hp rfl
  have hl0 : len = 0 := by
   rcases hB.2.2 with h0 | ⟨b, off, hh, _⟩
   ·exact h0
   ·cases hh
  subst hc hl0
  obtain rfl : m = [] := List.eq_nil_of_length_eq_zero g1
  refine wpList_append_own_none hgd s x _ ho N T i0 k ht hi v _ _ hs hown hx ?_
  refine h v w (by rw [List.append_nil]; exact hown) ⟨rfl, rfl, rfl, Nat.le_refl _, fun _ _ _ => rfl⟩ (fun _ h => h)
 ·have hmul : (l.length + len) * by_ ≤ 1000000 * 1000 := Nat.mul_le_mul (by omega) hby
  refine wpList_append_own w hgd s x t ho N T i0 z k by_ ht hi hz0 hz1 hz2 hz hk0 v _ _ hs hown ad len cap (m.flatMap enc) hx (by rw [flatR_len enc k hk, g1]) ?_ (flatR_one enc h1 m) (by rw [← g1]; unfold maxLen; omega) (by omega) hN ?_
  ·intro j u hj
   have hjl : j < m.length * k := by rw [← flatR_len enc k hk m]; exact (List.getElem?_eq_some_iff.1 hj).1
   rcases hB.2.2 with h0 | ⟨b, off, hh, hc⟩
   ·rw [g1, h0] at hjl; omega
   ·cases hh
    have h3 : (⟨b, off, none⟩ : Addr).add j = ⟨b, off + j, none⟩ := by
     by_cases hj0 : j = 0
     ·subst hj0; simp [Addr.add]
     ·simp [Addr.add, hj0]
    rw [h3]
    exact hB.cells j u hj hk hk0
  ·intro v' w' h1 h2 _
   refine h v' w' ?_ h2 (fun w0 hb => hb.grown h2 hN (fun j hj => (World.ownsRow.lt hown j hj).1))
   have e : l.length + len = (l ++ m).length := by rw [List.length_append, g1]
   rw [e, ← List.flatMap_append] at h1
   exact h1
end
def bytesL (s : ByteArray) : List Int := s.data.toList.map fun b => (b.toNat : Int)
theorem bytes_str {l : List Int} (h : By l) : bytesL (strOfNums l) = l := by
 simp only [bytesL, strOfNums_data, List.map_map]
 apply List.ext_getElem
 ·simp
 ·intro i h1 h2
  simp
  have := h _ (List.getElem_mem (l := l) (n := i) (by simpa using h2))
  rw [Int.emod_eq_of_lt] <;> omega
/-! Boxes -/
def BX (u : World) (g : Nat) (C : Array Value) (t : TypeId) : Prop := u.heap[g]? = some (.cells C t (0, 0))
theorem BX.below {u W : World} {g : Nat} {C : Array Value} {t : TypeId} (h : BX u g C t) (hb : Below u.heap.size u W) : BX W g C t := by
 unfold BX; rw [hb.block _ (Array.getElem?_eq_some_iff.1 h).1]; exact h
theorem BX.alloc {u : World} {g : Nat} {C : Array Value} {t : TypeId} (h : BX u g C t) (o : Obj) : BX (u.alloc o) g C t := h.below (bel1 u o)
theorem BX.new (u : World) (g : Nat) (hg : g = u.heap.size) (C : Array Value) (t : TypeId) : BX (u.alloc (.cells C t)) g C t := by subst hg; exact heap_alloc_new u _
theorem BX.size {u : World} {g : Nat} {C : Array Value} {t : TypeId} (h : BX u g C t) : g < u.heap.size := (Array.getElem?_eq_some_iff.1 h).1
theorem BX.cell {u : World} {g : Nat} {C : Array Value} {t : TypeId} (h : BX u g C t) (i : Nat) (v : Value) (hi : C[i]? = some v) : u.cell? ⟨g, i, none⟩ = some v := by
 rw [cell_of_row u _ _ _ _ _ h]; exact hi
theorem BX.free {u : World} {g : Nat} {C : Array Value} {t : TypeId} (h : BX u g C t) (i : Nat) : u.frozen? ⟨g, i, none⟩ = false := by
 unfold BX at h; simp [World.frozen?, h]
theorem BX.set {u : World} {g : Nat} {C : Array Value} {t : TypeId} (h : BX u g C t) (i : Nat) (v : Value) : BX (u.setCell ⟨g, i, none⟩ v) g (C.setIfInBounds i v) t := (set1 h (Below.refl g u) (Nat.le_refl _) i v).1
end Go.Proofs.YtomppblgalepjaaGreatDoor

namespace Go.Proofs.YtomppblgalepjaaGreatDoor
open Go.RowKit
set_option linter.unusedVariables false
end Go.Proofs.YtomppblgalepjaaGreatDoor

namespace Go.Proofs.YtomppblgalepjaaGreatDoor
open Go.RowKit
set_option linter.unusedVariables false
end Go.Proofs.YtomppblgalepjaaGreatDoor

namespace Go.Proofs.YtomppblgalepjaaGreatDoor
open Go.RowKit
set_option linter.unusedVariables false
def KP (g : Nat) (u W : World) : Prop := ∀ p v, u.cell? p = some v → p.block ≠ g → W.cell? p = some v
theorem KP.refl (g : Nat) (u : World) : KP g u u := fun _ _ h _ => h
theorem KP.set {g : Nat} {u W : World} (h : KP g u W) (i : Nat) (x : Value) : KP g u (W.setCell ⟨g, i, none⟩ x) := by
 intro p v hp hne
 have := h p v hp hne
 rw [World.cell?_setCell_far W ⟨g, i, none⟩ p x (fun e => hne e.symm)]
 exact this
theorem BX.put4 {u : World} {g : Nat} {x y z v : Value} {t : TypeId} (h : BX u g #[x, y, z, v] t) (a b c d : Value) : ((((u.setCell ⟨g, 0, none⟩ a).setCell ⟨g, 1, none⟩ b).setCell ⟨g, 2, none⟩ c).setCell ⟨g, 3, none⟩ d).heap[g]? = some (.cells #[a, b, c, d] t (0, 0)) := (((h.set 0 a).set 1 b).set 2 c).set 3 d
theorem BX.put6 {u : World} {g : Nat} {x y z v x' y' : Value} {t : TypeId} (h : BX u g #[x, y, z, v, x', y'] t) (a b c d e f : Value) : ((((((u.setCell ⟨g, 0, none⟩ a).setCell ⟨g, 1, none⟩ b).setCell ⟨g, 2, none⟩ c).setCell ⟨g, 3, none⟩ d).setCell ⟨g, 4, none⟩ e).setCell ⟨g, 5, none⟩ f).heap[g]? = some (.cells #[a, b, c, d, e, f] t (0, 0)) := (((((h.set 0 a).set 1 b).set 2 c).set 3 d).set 4 e).set 5 f
end Go.Proofs.YtomppblgalepjaaGreatDoor

namespace Go.Proofs.YtomppblgalepjaaGreatDoor
open Go.RowKit
set_option linter.unusedVariables false
section
variable {α : Type} {enc : α → List Value} {k : Nat} {T : TypeId}
theorem OwnR.off {N : Nat} {w : World} {v : Value} {l : List α} {g : Nat} {C : Array Value} {t : TypeId} (h : OwnR enc k T N w v l) (hx : BX w g C t) (hne : T ≠ t) : v.ownBlock ≠ some g := by
 rcases h.2 with ⟨rfl, _⟩ | ⟨g', cap, cur, rfl, _, hg, _⟩
 ·intro hh; simp [Value.ownBlock] at hh
 ·intro hh
  simp [Value.ownBlock] at hh
  subst hh
  unfold BX at hx
  rw [hg] at hx
  simp at hx
  exact hne hx.2
theorem OwnR.set {N : Nat} {w : World} {v : Value} {l : List α} {g : Nat} (h : OwnR enc k T N w v l) (ho : v.ownBlock ≠ some g) (i : Nat) (x : Value) : OwnR enc k T N (w.setCell ⟨g, i, none⟩ x) v l := by
 refine ⟨h.1, ?_⟩
 rcases h.2 with hn | ⟨g', cap, cur, rfl, hb', hgg, rest⟩
 ·exact .inl hn
 ·refine .inr ⟨g', cap, cur, rfl, hb', ?_, rest⟩
  have hne : g ≠ g' := fun e => ho (by simp [Value.ownBlock, e])
  rw [← hgg]
  simp [World.setCell, Array.getElem?_modify, hne]
end
theorem BX.grown {w w' : World} {r : Option Nat} {g : Nat} {C : Array Value} {t : TypeId} (h : BX w g C t) (hg : w.grownBy w' r) (hr : r ≠ some g) : BX w' g C t := by
 unfold BX
 rw [hg.block g h.size (fun e => hr e.symm)]
 exact h
end Go.Proofs.YtomppblgalepjaaGreatDoor

namespace Go.Proofs.YtomppblgalepjaaGreatDoor
open Go.RowKit
set_option linter.unusedVariables false
end Go.Proofs.YtomppblgalepjaaGreatDoor

namespace Go.Proofs.YtomppblgalepjaaGreatDoor
open Go.RowKit
set_option linter.unusedVariables false
end Go.Proofs.YtomppblgalepjaaGreatDoor

namespace Go.Proofs.YtomppblgalepjaaGreatDoor
open Go.RowKit Go.ChangeShapes Go.WideShapes
set_option linter.unusedVariables false
theorem addr_add (b off k : Nat) : (⟨b, off, none⟩ : Addr).add k = ⟨b, off + k, none⟩ := by
 by_cases hk : k = 0
 ·subst hk; simp [Addr.add]
 ·simp [Addr.add, hk]
section
variable {H : Type} {enc : TypeId × Value → H} {W : World}
end
end Go.Proofs.YtomppblgalepjaaGreatDoor

namespace Go.Proofs.YtomppblgalepjaaGreatDoor
open Go.RowKit
set_option linter.unusedVariables false
end Go.Proofs.YtomppblgalepjaaGreatDoor

namespace Go.Proofs.YtomppblgalepjaaGreatDoor
open Go.RowKit
set_option linter.unusedVariables false
end Go.Proofs.YtomppblgalepjaaGreatDoor

namespace Go.Proofs.YtomppblgalepjaaGreatDoor
open Go.RowKit
set_option linter.unusedVariables false
end Go.Proofs.YtomppblgalepjaaGreatDoor

namespace Go.Proofs.YtomppblgalepjaaGreatDoor
open Go.RowKit
end Go.Proofs.YtomppblgalepjaaGreatDoor

namespace Go.Proofs.YtomppblgalepjaaGreatDoor
open Go.RowKit Go.Lib Go.Sort
set_option linter.unusedVariables false
section
variable {α β : Type} {lt : α → α → Bool} {lt' : β → β → Bool}
end
end Go.Proofs.YtomppblgalepjaaGreatDoor

namespace Go.Proofs.YtomppblgalepjaaGreatDoor
open Go.RowKit Go.Lib Go.Sort
set_option linter.unusedVariables false
end Go.Proofs.YtomppblgalepjaaGreatDoor

namespace Go.Proofs.YtomppblgalepjaaGreatDoor
open Go.RowKit
set_option linter.unusedVariables false
end Go.Proofs.YtomppblgalepjaaGreatDoor

namespace Go.Proofs.YtomppblgalepjaaGreatDoor
open Go.RowKit
end Go.Proofs.YtomppblgalepjaaGreatDoor

namespace Go.Proofs.YtomppblgalepjaaGreatDoor
open Go.RowKit Go.ChangeShapes Go.WideShapes
set_option linter.unusedVariables false
section
variable {H : Type} {enc : TypeId × Value → H} {W : World}
end
end Go.Proofs.YtomppblgalepjaaGreatDoor

namespace Go.Proofs.YtomppblgalepjaaGreatDoor
open Go.RowKit
end Go.Proofs.YtomppblgalepjaaGreatDoor

namespace Go.Proofs.YtomppblgalepjaaGreatDoor
open Go.RowKit
set_option linter.unusedVariables false
end Go.Proofs.YtomppblgalepjaaGreatDoor

