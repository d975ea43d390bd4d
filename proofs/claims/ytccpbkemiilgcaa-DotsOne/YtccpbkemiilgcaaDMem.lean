/- Dots in memory: a slice's (DS), those of the call's own (OwnD); what 'May' does, the program's and the document's, and the document's 'All'. -/
import Derived.Test.YtccpbkemiilgcaaCLaw
import Derived.Test.YtccpbkemiilgcaaDMath
namespace Go.Proofs.Ytccpbkemiilgcaa
open Go.RowKit
set_option linter.unusedVariables false

def encD (d : Dot) : List Value := [.int .i64 d.1, .int .i64 d.2]
def flatD (l : List Dot) : List Value := l.flatMap encD
/-- A slice value's dots. -/
def DS (w : World) (a : Option Addr) (n : Nat) (l : List Dot) : Prop :=
  l.length = n ∧ n ≤ maxLen ∧ (n = 0 ∨ ∃ b off, a = some ⟨b, off, none⟩ ∧ ∀ i, i < n → w.cell? ⟨b, off + i * 2, none⟩ = some (.int .i64 (l.getD i (0, 0)).1) ∧ w.cell? ⟨b, off + i * 2 + 1, none⟩ = some (.int .i64 (l.getD i (0, 0)).2))
/-- A slice value whose dots lie in a block of the call's own, at 'N' or above. -/
def OwnD (N : Nat) (w : World) (v : Value) (l : List Dot) : Prop := w.ownsRow N 28 2 v l.length (flatD l)

theorem flatD_len (l : List Dot) : (flatD l).length = l.length * 2 := by
  induction l with
  | nil => rfl
  | cons d r ih => simp [flatD, encD] at *; omega
theorem flatD_app (l m : List Dot) : flatD (l ++ m) = flatD l ++ flatD m := by simp [flatD]
theorem flatD_get : ∀ (l : List Dot) (i : Nat), i < l.length → (flatD l)[i * 2]? = some (.int .i64 (l.getD i (0, 0)).1) ∧ (flatD l)[i * 2 + 1]? = some (.int .i64 (l.getD i (0, 0)).2)
  | [], i, h => by simp at h
  | d :: r, 0, _ => by simp [flatD, encD]
  | d :: r, i + 1, h => by
    have ih := flatD_get r i (by simpa using h)
    have e : flatD (d :: r) = .int .i64 d.1 :: .int .i64 d.2 :: flatD r := rfl
    rw [e, show (i + 1) * 2 = i * 2 + 1 + 1 by omega]
    simpa using ih
theorem flatD_one (l : List Dot) : ∀ v ∈ flatD l, v.oneCell' = true := by
  intro v hv
  simp only [flatD, List.mem_flatMap, encD] at hv
  obtain ⟨d, _, hd⟩ := hv
  simp only [List.mem_cons, List.not_mem_nil, or_false] at hd
  rcases hd with rfl | rfl <;> rfl

theorem bcell {u W : World} (hb : Below u.heap.size u W) {p : Addr} {v : Value} (h : u.cell? p = some v) : W.cell? p = some v := by
  rw [hb.cell (World.block_lt_of_cell? u _ h)]; exact h
theorem DS.ext {w w' : World} {a : Option Addr} {n : Nat} {l : List Dot} (h : DS w a n l) (hx : Ext w w') : DS w' a n l := by
  obtain ⟨h1, h2, h4⟩ := h
  refine ⟨h1, h2, ?_⟩
  rcases h4 with h0 | ⟨b, off, ha, hc⟩
  · exact .inl h0
  · exact .inr ⟨b, off, ha, fun i hi => ⟨hx _ _ (hc i hi).1, hx _ _ (hc i hi).2⟩⟩
theorem DS.below {w w' : World} {p : Option Addr} {len : Nat} {l : List Dot} (h : DS w p len l) (hb : Below w.heap.size w w') : DS w' p len l := h.ext ((Ext.refl w).below hb)
theorem DS.alloc {w : World} {p : Option Addr} {len : Nat} {l : List Dot} (h : DS w p len l) (o : Obj) : DS (w.alloc o) p len l := h.ext ((Ext.refl w).alloc o)
theorem DS.drew {w : World} {a : Option Addr} {n : Nat} {l : List Dot} (h : DS w a n l) : DS w.drew a n l := h
theorem DS.nil (w : World) (p : Option Addr) : DS w p 0 [] := ⟨rfl, by decide, .inl rfl⟩
theorem DS.new (w : World) (g : Nat) (hg : g = w.heap.size) (l : List Dot) (C : Array Value) (hC : C = (flatD l).toArray) (t : TypeId) (fr : Nat × Nat) (n : Nat) (hn : l.length = n) (hmax : n ≤ maxLen) :
    DS (w.alloc (.cells C t fr)) (some ⟨g, 0, none⟩) n l := by
  subst hg hC hn
  refine ⟨rfl, hmax, .inr ⟨_, 0, rfl, fun i hi => ?_⟩⟩
  have h := flatD_get l i hi
  rw [World.cell?_alloc_mark, World.cell?_alloc_mark]
  simpa using h
theorem DS.head {w : World} {a : Option Addr} {len : Nat} {l : List Dot} (hB : DS w a len l) (h : Nat) (h2 : h ≤ len) : DS w a h (l.take h) := by
  obtain ⟨g1, g2, g4⟩ := hB
  refine ⟨by rw [List.length_take]; omega, by omega, ?_⟩
  rcases Nat.eq_zero_or_pos h with h0 | hp
  · exact .inl h0
  · rcases g4 with h0 | ⟨b, off, rfl, hc⟩
    · omega
    · refine .inr ⟨b, off, rfl, fun t ht => ?_⟩
      have h4 : (l.take h).getD t (0, 0) = l.getD t (0, 0) := by simp [List.getD_eq_getElem?_getD, ht]
      rw [h4]
      exact hc t (by omega)

theorem OwnD.mono {N N' : Nat} {w : World} {v : Value} {l : List Dot} (h : OwnD N w v l) (hN : N' ≤ N) : OwnD N' w v l := ⟨h.1, h.2.imp id fun ⟨g, cap, cur, h1, h2, h3⟩ => ⟨g, cap, cur, h1, Nat.le_trans hN h2, h3⟩⟩
theorem OwnD.alloc {N : Nat} {w : World} {v : Value} {l : List Dot} (h : OwnD N w v l) (o : Obj) : OwnD N (w.alloc o) v l := World.ownsRow.alloc h o
theorem OwnD.drew {N : Nat} {w : World} {v : Value} {l : List Dot} (h : OwnD N w v l) : OwnD N w.drew v l := World.ownsRow.drew h
theorem OwnD.below {N : Nat} {w w' : World} {v : Value} {l : List Dot} (h : OwnD N w v l) (hb : Below w.heap.size w w') : OwnD N w' v l := by
  refine ⟨h.1, ?_⟩
  rcases h.2 with hn | ⟨g, cap, cur, rfl, hb', hgg, rest⟩
  · exact .inl hn
  · refine .inr ⟨g, cap, cur, rfl, hb', ?_, rest⟩
    rw [hb.block g (Array.getElem?_eq_some_iff.1 hgg).1]
    exact hgg
theorem OwnD.nil (N : Nat) (w : World) : OwnD N w (.slice none 0 0) [] := ⟨rfl, .inl ⟨rfl, rfl⟩⟩
theorem OwnD.open {N : Nat} {w : World} {v : Value} {l : List Dot} (h : OwnD N w v l) : ∃ p cap, v = .slice p l.length cap ∧ DS w p l.length l ∧ CP p l.length cap := by
  have h0 := h
  obtain ⟨_, h2⟩ := h
  rcases h2 with ⟨rfl, h2⟩ | ⟨g, cap, cur, rfl, hb, hg, hc1, hc2, hs, ht⟩
  · exact ⟨none, 0, by rw [h2], ⟨rfl, by rw [h2]; decide, .inl h2⟩, by omega, by decide, fun _ => rfl⟩
  · refine ⟨some ⟨g, 0, none⟩, cap, rfl, ⟨rfl, by omega, .inr ⟨g, 0, rfl, fun i hi => ?_⟩⟩, hc1, hc2, fun h => by cases h⟩
    have hf := flatD_get l i hi
    rw [Nat.zero_add, World.ownsRow.cellAt h0 (i * 2) (by omega), World.ownsRow.cellAt h0 (i * 2 + 1) (by omega)]
    exact hf
theorem OwnD.made (w : World) (N g : Nat) (hg : g = w.heap.size) (hN : N ≤ w.heap.size) : OwnD N (w.alloc (.cells #[] 28)) (.slice (some ⟨g, 0, none⟩) 0 0) [] := by
  subst hg; exact World.ownsRow_made w #[] 0 hN (by decide) rfl

theorem Try.infoDot : (Try.prog.info? 28).map (fun i => (i.zero, i.size, i.bytes)) = some (some (.agg #[.int .i64 0, .int .i64 0]), 2, 16) := by kernel_rfl

theorem mayTrue {r s : Int} (h1 : r ≥ 1) (h2 : r ≤ 5) (h3 : s ≥ 1) (h4 : s ≤ 1048576) : true = mayD (r, s) := (mayD_iff.2 ⟨h1, h2, h3, h4⟩).symm
theorem mayFalse {r s : Int} (h : ¬ (1 ≤ r ∧ r ≤ 5 ∧ 1 ≤ s ∧ s ≤ 1048576)) : false = mayD (r, s) := by
  symm; rw [← Bool.not_eq_true, mayD_iff]; exact h

end Go.Proofs.Ytccpbkemiilgcaa
