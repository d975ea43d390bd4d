/- Texts of this claim, joined: NR0, K0. -/
import Derived.Lib.Bytealg
import Derived.Test.YtomppblgalepjaaGreatDoorJ1
import Derived.Test.YtomppblgalepjaaGreatDoorJ2
import Derived.Test.YtomppblgalepjaaGreatDoorJ4
import Derived.Test.YtomppblgalepjaaGreatDoorJ5
/- The tokens that are not read yet: the program's reader in memory (layer 15). -/
namespace Go.Proofs.YtomppblgalepjaaGreatDoor
open Go.RowKit Go.Lib
set_option linter.unusedVariables false
def GB (D : Nat) (w w' : World) : Prop := w.heap.size ≤ w'.heap.size ∧ (∀ g, g < w.heap.size → g ≠ D → w'.heap[g]? = w.heap[g]?) ∧ w'.os = w.os ∧ w'.tape = w.tape ∧ w'.output = w.output
theorem GB.refl (D : Nat) (w : World) : GB D w w := ⟨Nat.le_refl _, fun _ _ _ => rfl, rfl, rfl, rfl⟩
theorem GB.drew {D : Nat} {w w' : World} (h : GB D w w') : GB D w w'.drew := ⟨h.1, h.2.1, h.2.2.1, h.2.2.2.1, h.2.2.2.2⟩
theorem GB.trans {D : Nat} {u v w : World} (h : GB D u v) (k : GB D v w) : GB D u w := ⟨Nat.le_trans h.1 k.1, fun g hg hne => (k.2.1 g (Nat.lt_of_lt_of_le hg h.1) hne).trans (h.2.1 g hg hne), k.2.2.1.trans h.2.2.1, k.2.2.2.1.trans h.2.2.2.1, k.2.2.2.2.trans h.2.2.2.2⟩
theorem GB.nextN {D : Nat} {u w w' : World} (h : GB D u w) (hb : Below u.heap.size w w') : GB D u w' := ⟨Nat.le_trans h.1 hb.size, fun g hg hne => (hb.block g hg).trans (h.2.1 g hg hne), hb.os.trans h.2.2.1, hb.tape.trans h.2.2.2.1, hb.output.trans h.2.2.2.2⟩
theorem GB.below (D : Nat) {w w' : World} (hb : Below w.heap.size w w') : GB D w w' := (GB.refl D w).nextN hb
theorem GB.next {D : Nat} {u w w' : World} (h : GB D u w) (hb : Below w.heap.size w w') : GB D u w' := h.trans (GB.below D hb)
theorem GB.set {D : Nat} {u w : World} (h : GB D u w) (i : Nat) (v : Value) : GB D u (w.setCell ⟨D, i, none⟩ v) := by
 refine h.trans ⟨by simp [World.setCell], fun g hg hne => ?_, rfl, rfl, rfl⟩
 simp [World.setCell, Array.getElem?_modify, Ne.symm hne]
theorem GB.new {D : Nat} {u w : World} (h : GB D u w) (g : Nat) (hg : u.heap.size ≤ g) (i : Nat) (v : Value) : GB D u (w.setCell ⟨g, i, none⟩ v) := h.nextN ((Below.refl _ w).setCell (p := ⟨g, i, none⟩) hg v)
theorem GB.bel {D N : Nat} {u w w' : World} (h : Below N u w) (k : GB D w w') (hN : N ≤ w.heap.size) (hD : N ≤ D) : Below N u w' := h.trans ⟨k.2.2.1, k.2.2.2.1, k.2.2.2.2, k.1, fun g hg => k.2.1 g (by omega) (by omega)⟩
theorem BX.gb {D : Nat} {u W : World} {g : Nat} {C : Array Value} {t : TypeId} (h : BX u g C t) (hb : GB D u W) (hne : g ≠ D) : BX W g C t := by
 unfold BX at h ⊢
 rw [hb.2.1 g (Array.getElem?_eq_some_iff.1 h).1 hne]
 exact h
theorem OwnR.gb {α : Type} {enc : α → List Value} {k : Nat} {T : TypeId} {D N : Nat} {w w' : World} {v : Value} {l : List α} (h : OwnR enc k T N w v l) (hg : GB D w w') (hne : v.ownBlock ≠ some D) : OwnR enc k T N w' v l := by
 refine ⟨h.1, ?_⟩
 rcases h.2 with hn | ⟨g, cap, cur, rfl, hb', hgg, rest⟩
 ·exact .inl hn
 ·refine .inr ⟨g, cap, cur, rfl, hb', ?_, rest⟩
  rw [hg.2.1 g (Array.getElem?_eq_some_iff.1 hgg).1 (fun e => hne (by rw [← e]; rfl))]
  exact hgg
def RP (D : Nat) (w : World) (l : List Tk) : Prop := ∃ a c, BX w D #[.slice a l.length c] 115 ∧ KS w a l.length l ∧ CP a l.length c ∧ ∀ b, a = some b → b.block < D
theorem RP.below {D : Nat} {w w' : World} {l : List Tk} (h : RP D w l) (hb : Below w.heap.size w w') : RP D w' l := by
 obtain ⟨a, c, h1, h2, h3, h4⟩ := h
 exact ⟨a, c, h1.below hb, h2.below hb, h3, h4⟩
theorem RP.size {D : Nat} {w : World} {l : List Tk} (h : RP D w l) : D < w.heap.size := by
 obtain ⟨a, c, h1, _⟩ := h
 exact h1.size
theorem RP.other {D g : Nat} {w : World} {l : List Tk} (h : RP D w l) (hg : D < g) (i : Nat) (v : Value) : RP D (w.setCell ⟨g, i, none⟩ v) l := by
 obtain ⟨a, c, h1, h2, h3, h4⟩ := h
 have e : ∀ k, k ≠ g → (w.setCell ⟨g, i, none⟩ v).heap[k]? = w.heap[k]? := fun k hk => by simp [World.setCell, Array.getElem?_modify, Ne.symm hk]
 refine ⟨a, c, ?_, h2.keep (fun _ b hb => e _ (by have := h4 b hb; omega)), h3, h4⟩
 unfold BX
 rw [e D (by omega)]
 exact h1
theorem RP.head {D : Nat} {w : World} {r : List Tk} {t : Tk} (h : RP D w (t :: r)) : ∃ b off c, BX w D #[.slice (some ⟨b, off, none⟩) (r.length + 1) c] 115 ∧ w.cell? ⟨b, off, none⟩ = some (.int .i64 t.1) ∧ w.cell? ⟨b, off + 1, none⟩ = some (.string t.2.1) ∧ w.cell? ⟨b, off + 2, none⟩ = some (.int .i64 t.2.2.1) ∧ w.cell? ⟨b, off + 3, none⟩ = some (.int .i64 t.2.2.2) ∧ r.length + 1 ≤ c ∧ c ≤ maxLen ∧ b < D := by
 obtain ⟨a, c, h1, h2, h3, h4⟩ := h
 rcases h2.2.2 with h0 | ⟨b, off, rfl, hc⟩
 ·simp at h0
 ·have q := fun j v hj => hc 0 t rfl j v hj
  simp only [Nat.zero_mul, Nat.add_zero] at q
  exact ⟨b, off, c, h1, q 0 _ rfl, q 1 _ rfl, q 2 _ rfl, q 3 _ rfl, h3.1, h3.2.1, h4 _ rfl⟩
theorem RP.tail {D : Nat} {w : World} {r : List Tk} {t : Tk} (h : RP D w (t :: r)) {b off c : Nat} (hx : BX w D #[.slice (some ⟨b, off, none⟩) (r.length + 1) c] 115) (hc1 : r.length + 1 ≤ c) {a : Option Addr} (ha : a = if c = 1 then some ⟨b, off, none⟩ else some ⟨b, off + 4, none⟩) : RP D (w.setCell ⟨D, 0, none⟩ (.slice a r.length (c - 1))) r := by
 obtain ⟨a', c', h1, h2, h3, h4⟩ := h
 have e : (#[.slice a' (t :: r).length c'] : Array Value) = #[.slice (some ⟨b, off, none⟩) (r.length + 1) c] := by
  unfold BX at h1 hx
  rw [h1] at hx
  cases hx
  rfl
 cases e
 have hbD := h4 _ rfl
 refine ⟨a, c - 1, ?_, ?_, ⟨by omega, by have := h3.2.1; omega, fun h => by rw [ha] at h; split at h <;> cases h⟩, fun b' hb' => ?_⟩
 ·exact hx.set 0 _
 ·have q : KS w a r.length r := by
   rw [ha]
   rcases Nat.lt_or_ge 0 r.length with hlt | hge
   ·rw [if_neg (by omega)]
    exact RS.mid (k := 4) h2 1 (by simp)
   ·have e : r = [] := List.length_eq_zero_iff.1 (by omega)
    subst e
    exact RS.nil _ _
  refine q.keep (fun _ b' hb' => ?_)
  have hb : b'.block = b := by rw [ha] at hb'; split at hb' <;> (cases hb'; rfl)
  have hne : D ≠ b := by have : b < D := hbD; omega
  rw [hb]
  simp [World.setCell, Array.getElem?_modify, hne]
 ·rw [ha] at hb'
  split at hb' <;> (cases hb'; exact hbD)
end Go.Proofs.YtomppblgalepjaaGreatDoor

/- Keys in order (by their bytes), in plain mathematics. -/
namespace Go.Proofs.YtomppblgalepjaaGreatDoor
set_option linter.unusedVariables false

theorem toL_inj {a b : ByteArray} (h : a.toList = b.toList) : a = b := by
 rw [ByteArray.toList_eq, ByteArray.toList_eq] at h
 obtain ⟨⟨x⟩⟩ := a
 obtain ⟨⟨y⟩⟩ := b
 simpa using h
theorem eqK (a b : ByteArray) : (a.toList == b.toList) = decide (a = b) := by
 rw [Bool.eq_iff_iff, beq_iff_eq, decide_eq_true_iff]
 exact ⟨toL_inj, fun h => by rw [h]⟩
end Go.Proofs.YtomppblgalepjaaGreatDoor

