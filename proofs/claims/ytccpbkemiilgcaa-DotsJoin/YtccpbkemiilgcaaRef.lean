/- What the document's answer (package hucksterref01) does: the bits of at most 100000 bytes in new memory, and the register behind bits. Asked: the bytes lie in memory as said. -/
import Derived.Test.YtccpbkemiilgcaaOf
namespace Go.Proofs.Ytccpbkemiilgcaa
open Go.RowKit

def pw (j : Nat) : Int := [128, 64, 32, 16, 8, 4, 2, 1].getD j 0
def bitsOf (o : Int) : List Int := (List.range 8).map fun j => o / pw j % 2
def allBits (l : List Int) : List Int := l.flatMap bitsOf

theorem pw_step (j : Nat) (h : j < 8) : pw j / 2 = pw (j + 1) ∧ 0 < pw j ∧ pw j ≤ 128 := by
  match j, h with
  | 0, _ => decide
  | 1, _ => decide
  | 2, _ => decide
  | 3, _ => decide
  | 4, _ => decide
  | 5, _ => decide
  | 6, _ => decide
  | 7, _ => decide
theorem pw_pos (j : Nat) (h : 0 < pw j) : j < 8 := by
  rcases Nat.lt_or_ge j 8 with h' | h'
  · exact h'
  · simp [pw, List.getD_eq_getElem?_getD, List.getElem?_eq_none (l := [128, 64, 32, 16, 8, 4, 2, (1 : Int)]) (by simpa using h')] at h
theorem bits_len (o : Int) : (bitsOf o).length = 8 := by simp [bitsOf]
theorem bits_take (o : Int) (j : Nat) (h : j < 8) : (bitsOf o).take (j + 1) = (bitsOf o).take j ++ [o / pw j % 2] := by
  rw [List.take_succ_eq_append_getElem (by rw [bits_len]; exact h)]
  simp [bitsOf]
theorem all_snoc (l : List Int) (k : Nat) (h : k < l.length) : allBits (l.take (k + 1)) = allBits (l.take k) ++ bitsOf (l.getD k 0) := by
  unfold allBits
  rw [List.take_succ_eq_append_getElem h, List.flatMap_append]
  simp [List.getD_eq_getElem?_getD, h]
theorem all_len (l : List Int) : (allBits l).length = 8 * l.length := by
  unfold allBits
  induction l with
  | nil => rfl
  | cons a l ih => rw [List.flatMap_cons, List.length_append, bits_len, ih, List.length_cons]; omega

theorem Try.info3 : (Try.prog.info? 3).map (fun i => (i.zero, i.size, i.bytes)) = some (some (.int .i64 0), 1, 8) := by kernel_rfl

theorem rel_app {N n : Nat} {w wr w1 : World} {u : Value} {xs : List Value} {o : Obj} (hw : N ≤ w.heap.size) (hown : wr.ownsRow N 3 1 u n xs) (hnx : Below N w wr)
    (hgrow : (wr.alloc o).grownBy w1 u.ownBlock) : Below N w w1 :=
  (hnx.alloc (by have := hnx.size; omega) o).grown hgrow (by have := hnx.size; simp; omega) (fun j hj => by have := (hown.lt j hj).1; omega)

end Go.Proofs.Ytccpbkemiilgcaa
