/- Tallies (layer 10), in plain mathematics: which may be, a key's number, more added; the theorems of order and of sums. -/
import Derived.Test.YtohkopjacpendaaG0
namespace Go.Proofs.Ytohkopjacpendaa
set_option linter.unusedVariables false
/-- A cell: Key, N. -/
abbrev Ce := ByteArray × Int
abbrev kC : Ce → ByteArray := Prod.fst
def big40 : Int := 1099511627776
def mayCe (x : Ce) : Bool := mayK x.1 && decide (x.2 ≠ 0 ∧ -big40 ≤ x.2 ∧ x.2 ≤ big40)
theorem mayCe_iff {x : Ce} : mayCe x = true ↔ mayK x.1 = true ∧ x.2 ≠ 0 ∧ -big40 ≤ x.2 ∧ x.2 ≤ big40 := by simp [mayCe]
abbrev mayT (s : List Ce) : Bool := mayG kC mayCe s
/-- A key's number. -/
def numT (s : List Ce) (k : ByteArray) : Int := match getG kC s k with
  | none => 0
  | some x => x.2
/-- What a key has with a number. -/
def celT (k : ByteArray) (n : Int) : Option Ce := if n = 0 then none else some (k, n)
/-- A tally in which a key has a number; of 0 it is left out. -/
def setT (s : List Ce) (k : ByteArray) (n : Int) : List Ce := putG kC s k (celT k n)
def addT (s : List Ce) (k : ByteArray) (n : Int) : List Ce := setT s k (numT s k + n)
theorem celT_key {k : ByteArray} {n : Int} {y : Ce} (h : celT k n = some y) : kC y = k := by
  unfold celT at h
  split at h
  · cases h
  · cases h; rfl
theorem setT_srt {s : List Ce} (hs : SrtG kC s) (k : ByteArray) (n : Int) : SrtG kC (setT s k n) := srtG_put hs k (fun y h => celT_key h)
theorem numT_set {s : List Ce} (hs : SrtG kC s) (k : ByteArray) (n : Int) (k' : ByteArray) : numT (setT s k n) k' = if k' = k then n else numT s k' := by
  unfold numT setT
  rw [getG_put hs k (fun y h => celT_key h)]
  by_cases h : k' = k
  · rw [if_pos h, if_pos h]
    unfold celT
    by_cases hn : n = 0 <;> simp [hn]
  · rw [if_neg h, if_neg h]
theorem set_len (s : List Ce) (k : ByteArray) (n : Int) : (setT s k n).length ≤ s.length + 1 := putG_len s k _
/-- No row is 0. -/
def NzT (s : List Ce) : Prop := ∀ x ∈ s, x.2 ≠ 0
theorem setT_nz {s : List Ce} (hs : NzT s) (k : ByteArray) (n : Int) : NzT (setT s k n) := by
  intro y hy
  rcases memG_put.1 hy with ⟨h, _⟩ | h
  · exact hs y h
  · unfold celT at h
    split at h
    · cases h
    · cases h; assumption
/-- Tallies are told by their numbers. -/
theorem tally_ext {s t : List Ce} (hs : SrtG kC s) (ht : SrtG kC t) (ns : NzT s) (nt : NzT t) (h : ∀ k, numT s k = numT t k) : s = t := by
  refine setG_ext hs ht (fun k => ?_)
  have q := h k
  unfold numT at q
  rcases e1 : getG kC s k with _ | x
  · rcases e2 : getG kC t k with _ | y
    · rfl
    · rw [e1, e2] at q
      exact absurd q.symm (nt y (getG_some e2).1)
  · rcases e2 : getG kC t k with _ | y
    · rw [e1, e2] at q
      exact absurd q (ns x (getG_some e1).1)
    · rw [e1, e2] at q
      have kx := (getG_some e1).2
      have ky := (getG_some e2).2
      rw [show x = y from Prod.ext (kx.trans ky.symm) q]
theorem mayT_nz {s : List Ce} (h : mayT s = true) : NzT s := fun x hx => (mayCe_iff.1 ((mayG_iff.1 h).1 x hx)).2.1
theorem numT_may {s : List Ce} (h : mayT s = true) (k : ByteArray) : -big40 ≤ numT s k ∧ numT s k ≤ big40 := by
  unfold numT
  rcases e : getG kC s k with _ | x
  · exact ⟨by decide, by decide⟩
  · exact (mayCe_iff.1 ((mayG_iff.1 h).1 x (getG_some e).1)).2.2
/-- May a set be in which a key has a number? -/
theorem mayT_set {s : List Ce} (h : mayT s = true) {k : ByteArray} (hk : mayK k = true) {n : Int} (h1 : -big40 ≤ n) (h2 : n ≤ big40) (hn : s.length < 4000) : mayT (setT s k n) = true := by
  refine mayG_put h k (fun y hy => ?_) hn
  unfold celT at hy
  split at hy
  · cases hy
  · cases hy
    exact ⟨rfl, mayCe_iff.2 ⟨hk, by assumption, h1, h2⟩⟩
theorem mayT_big {s : List Ce} (hs : SrtG kC s) {k : ByteArray} {n : Int} (h : ¬ (-big40 ≤ n ∧ n ≤ big40)) : mayT (setT s k n) = false := by
  rcases hb : mayT (setT s k n) with _ | _
  · rfl
  · exfalso
    have q := numT_may hb k
    rw [numT_set hs, if_pos rfl] at q
    exact h q
/-! Numbers added one behind the other -/
/-- Is a number one that may be added? -/
def okT (x : Ce) : Bool := mayK x.1 && decide (-1000 ≤ x.2 ∧ x.2 ≤ 1000)
def stepT (a : List Ce) (x : Ce) : List Ce := if okT x = true then addT a x.1 x.2 else a
/-- All that is added to a key. -/
def totT (k : ByteArray) : List Ce → Int
  | [] => 0
  | x :: r => (if okT x = true ∧ x.1 = k then x.2 else 0) + totT k r
theorem totT_app (k : ByteArray) : ∀ (a b : List Ce), totT k (a ++ b) = totT k a + totT k b
  | [], b => by simp [totT]
  | x :: a, b => by rw [List.cons_append, totT, totT_app k a b, totT]; omega
theorem totT_perm {k : ByteArray} {a b : List Ce} (h : a.Perm b) : totT k a = totT k b := by
  induction h with
  | nil => rfl
  | cons x _ ih => rw [totT, totT, ih]
  | swap x y l => simp only [totT]; omega
  | trans _ _ h1 h2 => rw [h1, h2]
/-- What a tally keeps while numbers are added. -/
structure TA (s : List Ce) (l : List Ce) : Prop where
  may : mayT s = true
  len : s.length ≤ l.length
  num : ∀ k, numT s k = totT k l
theorem TA.nil : TA [] [] := ⟨by decide, Nat.le_refl _, fun k => rfl⟩
theorem totT_bd (k : ByteArray) : ∀ (l : List Ce), -(1000 * (l.length : Int)) ≤ totT k l ∧ totT k l ≤ 1000 * (l.length : Int)
  | [] => by simp [totT]
  | x :: r => by
    have ih := totT_bd k r
    rw [totT, List.length_cons]
    split
    · rename_i h
      have : -1000 ≤ x.2 ∧ x.2 ≤ 1000 := by
        have := h.1
        simp [okT] at this
        exact this.2
      omega
    · omega
theorem TA.step {s l : List Ce} (h : TA s l) (x : Ce) (hl : l.length < 1000) : TA (stepT s x) (l ++ [x]) := by
  unfold stepT
  have hs := (mayG_iff.1 h.may).2.1
  have hl' := h.len
  split
  · rename_i hx
    have hk : mayK x.1 = true := by simp [okT] at hx; exact hx.1
    have hb := totT_bd x.1 (l ++ [x])
    have hn : numT s x.1 + x.2 = totT x.1 (l ++ [x]) := by rw [totT_app, h.num x.1]; simp [totT, hx]
    rw [List.length_append, List.length_singleton] at hb
    have e : big40 = 1099511627776 := rfl
    refine ⟨mayT_set h.may hk (by rw [hn]; omega) (by rw [hn]; omega) (by omega), ?_, fun k => ?_⟩
    · have := set_len s x.1 (numT s x.1 + x.2)
      unfold addT
      rw [List.length_append, List.length_singleton]
      omega
    · unfold addT
      rw [numT_set hs, totT_app]
      split
      · rename_i q
        subst q
        rw [h.num x.1]
        simp [totT, hx]
      · rename_i q
        rw [h.num k]
        simp [totT, hx, Ne.symm q]
  · rename_i hx
    refine ⟨h.may, by rw [List.length_append]; omega, fun k => ?_⟩
    rw [totT_app, h.num k]
    simp [totT, hx]
/-- In which order numbers are added does not matter. -/
theorem TA.meet {s t l m : List Ce} (hs : TA s l) (ht : TA t m) (h : l.Perm m) : s = t :=
  tally_ext (mayG_iff.1 hs.may).2.1 (mayG_iff.1 ht.may).2.1 (mayT_nz hs.may) (mayT_nz ht.may) (fun k => by rw [hs.num, ht.num, totT_perm h])
/-- Taken out of what is left, at a place. -/
theorem perm_take {α : Type} {d left : List α} {k : Nat} {x : α} (hx : left[k]? = some x) : (d ++ [x] ++ (left.take k ++ left.drop (k + 1))).Perm (d ++ left) := by
  have e : left = left.take k ++ x :: left.drop (k + 1) := by
    have hk := (List.getElem?_eq_some_iff.1 hx).1
    conv => lhs; rw [← List.take_append_drop k left]
    rw [List.drop_eq_getElem_cons hk, (List.getElem?_eq_some_iff.1 hx).2]
  rw [List.append_assoc]
  refine List.Perm.append_left d ?_
  conv => rhs; rw [e]
  exact (show (x :: (left.take k ++ left.drop (k + 1))).Perm _ from List.perm_middle.symm)
end Go.Proofs.Ytohkopjacpendaa
