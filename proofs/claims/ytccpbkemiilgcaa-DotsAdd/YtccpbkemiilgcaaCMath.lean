/- Clocks in plain mathematics: a replica's number, five of them, and a clock without noughts at its end. -/
import Derived.Test.YtccpbkemiilgcaaWMath
namespace Go.Proofs.Ytccpbkemiilgcaa

/-- May a number stand in a clock? -/
def inB (x : Int) : Bool := decide (0 ≤ x) && decide (x ≤ 1048576)
/-- May a clock be? -/
def mayC (c : List Int) : Bool := decide (c.length ≤ 5) && c.all inB
/-- A replica's number, replicas counted from 0. -/
def at5 (c : List Int) (k : Nat) : Int := if mayC c = true then c.getD k 0 else 0
/-- All five numbers. -/
def vec (c : List Int) : List Int := [at5 c 0, at5 c 1, at5 c 2, at5 c 3, at5 c 4]
/-- How many numbers stand ahead of the noughts at the end. -/
def plen : List Int → Nat
  | [] => 0
  | a :: r => if plen r = 0 ∧ a = 0 then 0 else plen r + 1
/-- Without noughts at the end. -/
def pln (x : List Int) : List Int := x.take (plen x)

theorem inB_iff {x : Int} : inB x = true ↔ 0 ≤ x ∧ x ≤ 1048576 := by simp [inB]
theorem mayC_iff {c : List Int} : mayC c = true ↔ c.length ≤ 5 ∧ ∀ x ∈ c, 0 ≤ x ∧ x ≤ 1048576 := by simp [mayC, inB]
theorem plen_le : ∀ x : List Int, plen x ≤ x.length
  | [] => Nat.le_refl _
  | a :: r => by
    have := plen_le r
    unfold plen
    split
    · omega
    · simp; omega
theorem plen_zero : ∀ l : List Int, plen (l ++ [0]) = plen l
  | [] => by simp [plen]
  | a :: r => by simp only [List.cons_append, plen, plen_zero r]
theorem plen_snoc {a : Int} (ha : a ≠ 0) : ∀ l : List Int, plen (l ++ [a]) = l.length + 1
  | [] => by simp [plen, ha]
  | b :: r => by simp [plen, plen_snoc ha r]
theorem pln_length (l : List Int) : (pln l).length = plen l := by unfold pln; rw [List.length_take]; have := plen_le l; omega
theorem pln_zero (l : List Int) : pln (l ++ [0]) = pln l := by
  unfold pln; rw [plen_zero, List.take_append_of_le_length (plen_le l)]
theorem pln_snoc {a : Int} (ha : a ≠ 0) (l : List Int) : pln (l ++ [a]) = l ++ [a] := by
  unfold pln; rw [plen_snoc ha, List.take_of_length_le (by simp)]
theorem drop_plen : ∀ l : List Int, l.drop (plen l) = List.replicate (l.length - plen l) 0
  | [] => rfl
  | a :: r => by
    have ih := drop_plen r
    unfold plen
    split
    · next h =>
      obtain ⟨h1, rfl⟩ := h
      rw [h1] at ih
      simp at ih
      simp [List.replicate_succ, ← ih]
    · simpa using ih
theorem pln_pad (l : List Int) : pln l ++ List.replicate (l.length - (pln l).length) 0 = l := by
  rw [pln_length, ← drop_plen]; exact List.take_append_drop _ _
theorem pln_getD (l : List Int) (i : Nat) : (pln l).getD i 0 = l.getD i 0 := by
  conv => rhs; rw [← pln_pad l]
  simp only [List.getD_eq_getElem?_getD]
  by_cases h : i < (pln l).length
  · rw [List.getElem?_append_left h]
  · rw [List.getElem?_eq_none (by omega), List.getElem?_append_right (by omega)]
    simp only [List.getElem?_replicate]
    split <;> rfl
theorem mayC_pln (x : List Int) (hx : x.length ≤ 5) (hb : ∀ a ∈ x, 0 ≤ a ∧ a ≤ 1048576) : mayC (pln x) = true := by
  rw [mayC_iff]
  refine ⟨by rw [pln_length]; have := plen_le x; omega, fun a ha => hb a (List.mem_of_mem_take ha)⟩
theorem at5_bd (c : List Int) (k : Nat) : 0 ≤ at5 c k ∧ at5 c k ≤ 1048576 := by
  unfold at5
  split
  · next h =>
    rw [mayC_iff] at h
    by_cases hk : k < c.length
    · have : c.getD k 0 = c[k] := by simp [List.getD_eq_getElem?_getD, hk]
      rw [this]; exact h.2 _ (List.getElem_mem hk)
    · have : c.getD k 0 = 0 := by simp [List.getD_eq_getElem?_getD, Nat.not_lt.mp hk]
      rw [this]; omega
  · omega
theorem vec_bd (c : List Int) : ∀ a ∈ vec c, 0 ≤ a ∧ a ≤ 1048576 := by
  intro a ha
  simp only [vec, List.mem_cons, List.not_mem_nil, or_false] at ha
  rcases ha with rfl | rfl | rfl | rfl | rfl <;> exact at5_bd _ _
theorem at5_pln (x : List Int) (hx : x.length = 5) (hb : ∀ a ∈ x, 0 ≤ a ∧ a ≤ 1048576) (k : Nat) : at5 (pln x) k = x.getD k 0 := by
  unfold at5
  rw [if_pos (mayC_pln x (by omega) hb), pln_getD]
theorem vec_eq (x : List Int) (hx : x.length = 5) : [x.getD 0 0, x.getD 1 0, x.getD 2 0, x.getD 3 0, x.getD 4 0] = x := by
  match x, hx with
  | [a, b, c, d, e], _ => rfl
theorem vec_pln (x : List Int) (hx : x.length = 5) (hb : ∀ a ∈ x, 0 ≤ a ∧ a ≤ 1048576) : vec (pln x) = x := by
  unfold vec
  simp only [at5_pln x hx hb]
  exact vec_eq x hx
theorem vec_five (x : List Int) (hx : x.length = 5) (hb : ∀ a ∈ x, 0 ≤ a ∧ a ≤ 1048576) : vec x = x := by
  unfold vec at5
  simp only [if_pos (show mayC x = true from mayC_iff.2 ⟨by omega, hb⟩)]
  exact vec_eq x hx
theorem vec_len (c : List Int) : (vec c).length = 5 := rfl
theorem vec_getD (c : List Int) (k : Nat) (hk : k < 5) : (vec c).getD k 0 = at5 c k := by
  rcases k with _ | _ | _ | _ | _ | k
  · rfl
  · rfl
  · rfl
  · rfl
  · rfl
  · omega

/-- Of each replica the greater number. -/
def joinL (a b : List Int) : List Int := [max (at5 a 0) (at5 b 0), max (at5 a 1) (at5 b 1), max (at5 a 2) (at5 b 2), max (at5 a 3) (at5 b 3), max (at5 a 4) (at5 b 4)]
/-- Of each replica the lesser one. -/
def meetL (a b : List Int) : List Int := [min (at5 a 0) (at5 b 0), min (at5 a 1) (at5 b 1), min (at5 a 2) (at5 b 2), min (at5 a 3) (at5 b 3), min (at5 a 4) (at5 b 4)]
/-- Is one within another one? -/
abbrev wth (a b : List Int) : Prop := at5 a 0 ≤ at5 b 0 ∧ at5 a 1 ≤ at5 b 1 ∧ at5 a 2 ≤ at5 b 2 ∧ at5 a 3 ≤ at5 b 3 ∧ at5 a 4 ≤ at5 b 4
/-- A clock with a replica's number (replicas counted from 0). -/
def setL (a : List Int) (r : Nat) (n : Int) : List Int := (vec a).set r n
def sumL (a : List Int) : Int := at5 a 0 + at5 a 1 + at5 a 2 + at5 a 3 + at5 a 4
def ordL (a b : List Int) : Int := if wth a b then (if wth b a then 0 else -1) else if wth b a then 1 else 2

theorem joinL_bd (a b : List Int) : ∀ x ∈ joinL a b, 0 ≤ x ∧ x ≤ 1048576 := by
  intro x hx
  simp only [joinL, List.mem_cons, List.not_mem_nil, or_false] at hx
  rcases hx with rfl | rfl | rfl | rfl | rfl <;> (have h1 := at5_bd a; have h2 := at5_bd b; constructor <;> first | (have := h1 0; have := h2 0; omega) | (have := h1 1; have := h2 1; omega) | (have := h1 2; have := h2 2; omega) | (have := h1 3; have := h2 3; omega) | (have := h1 4; have := h2 4; omega))
theorem meetL_bd (a b : List Int) : ∀ x ∈ meetL a b, 0 ≤ x ∧ x ≤ 1048576 := by
  intro x hx
  simp only [meetL, List.mem_cons, List.not_mem_nil, or_false] at hx
  rcases hx with rfl | rfl | rfl | rfl | rfl <;> (have h1 := at5_bd a; have h2 := at5_bd b; constructor <;> first | (have := h1 0; have := h2 0; omega) | (have := h1 1; have := h2 1; omega) | (have := h1 2; have := h2 2; omega) | (have := h1 3; have := h2 3; omega) | (have := h1 4; have := h2 4; omega))
theorem at5_join (a b : List Int) (k : Nat) (hk : k < 5) : at5 (pln (joinL a b)) k = max (at5 a k) (at5 b k) := by
  rw [at5_pln _ rfl (joinL_bd a b)]
  rcases k with _ | _ | _ | _ | _ | k
  · rfl
  · rfl
  · rfl
  · rfl
  · rfl
  · omega
theorem at5_meet (a b : List Int) (k : Nat) (hk : k < 5) : at5 (pln (meetL a b)) k = min (at5 a k) (at5 b k) := by
  rw [at5_pln _ rfl (meetL_bd a b)]
  rcases k with _ | _ | _ | _ | _ | k
  · rfl
  · rfl
  · rfl
  · rfl
  · rfl
  · omega
theorem setL_bd (a : List Int) (r : Nat) (n : Int) (h0 : 0 ≤ n) (h1 : n ≤ 1048576) : ∀ x ∈ setL a r n, 0 ≤ x ∧ x ≤ 1048576 := by
  intro x hx
  rcases List.mem_or_eq_of_mem_set hx with h | rfl
  · exact vec_bd a x h
  · exact ⟨h0, h1⟩
end Go.Proofs.Ytccpbkemiilgcaa
