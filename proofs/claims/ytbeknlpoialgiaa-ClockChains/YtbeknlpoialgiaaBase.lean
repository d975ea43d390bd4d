/- What each function of package sum does: it answers the plain function of the same name and leaves the world as it was. Asked: the bytes lie in memory as said. -/
import Derived.Test.YtbeknlpoialgiaaRows
import Derived.Test.YtbeknlpoialgiaaMath
import Derived.WalkKit
import Derived.WalkSpells
import Derived.WalkLawsBesides
import Derived.Handy
namespace Go.Proofs.Ytbeknlpoialgiaa
open Go.RowKit

theorem hide {p : Prop} (h : p) : Hid p := h
theorem unhide {p : Prop} (h : Hid p) : p := h
theorem ret_int {k : IntKind} {a b : Int} (h : a = b) : Ending.returned (.int k a) = .returned (.int k b) := by rw [h]

/-- A slice value's bytes: 'l', each a byte; where there is one at all, they lie in one row of cells. -/
def BS (w : World) (a : Option Addr) (len : Nat) (l : List Int) : Prop :=
  l.length = len ∧ len ≤ maxLen ∧ (∀ n ∈ l, 0 ≤ n ∧ n < 256) ∧ (len = 0 ∨ ∃ b off, a = some ⟨b, off, none⟩ ∧ ∀ i, i < len → w.cell? ⟨b, off + i, none⟩ = some (.int .u8 (l.getD i 0)))

theorem foldl_drop (f : Int → Int → Int) (l : List Int) (k : Nat) (x : Int) (h : k < l.length) : (l.drop k).foldl f x = (l.drop (k + 1)).foldl f (f x (l.getD k 0)) := by
  rw [List.drop_eq_getElem_cons h, List.foldl_cons]
  simp [List.getD_eq_getElem?_getD, h]
theorem getD_byte {l : List Int} (hl : ∀ n ∈ l, 0 ≤ n ∧ n < 256) (k : Nat) : 0 ≤ l.getD k 0 ∧ l.getD k 0 < 256 := by
  by_cases h : k < l.length
  · have : l.getD k 0 = l[k] := by simp [List.getD_eq_getElem?_getD, h]
    rw [this]; exact hl _ (List.getElem_mem h)
  · have : l.getD k 0 = 0 := by simp [List.getD_eq_getElem?_getD, Nat.not_lt.mp h]
    rw [this]; omega

end Go.Proofs.Ytbeknlpoialgiaa
