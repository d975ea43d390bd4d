/- Texts of this claim, joined: D0, Z0, Z5, G0, GT0, GE0, GN0, H0. -/
import Derived.Test.YtkbbegbpkndebaaGreatJ1
import Derived.Test.YtkbbegbpkndebaaGreatJ2
import Derived.Test.YtkbbegbpkndebaaGreatJ3
import Derived.Test.YtkbbegbpkndebaaGreatJ4
import Derived.Test.YtkbbegbpkndebaaGreatJ9
/- The theorem of the set (layer 8), in plain mathematics. -/
namespace Go.Proofs.YtkbbegbpkndebaaGreat
set_option linter.unusedVariables false
def kOf (x : Eff) : ByteArray := strOfNums x.2.2.1
def doesB (e : Evt) (kind o : Int) (k : ByteArray) : Bool := e.2.2.any fun x => decide (x.1 = kind) && decide (x.2.1 = o) && decide (kOf x = k)
end Go.Proofs.YtkbbegbpkndebaaGreat

/- Sets of keys with Live and Dead (layer 9), in plain mathematics. -/
namespace Go.Proofs.YtkbbegbpkndebaaGreat
set_option linter.unusedVariables false
abbrev Pr := List Dot × List Dot
def getP : List En → ByteArray → Pr
 | [], _ => ([], [])
 | x :: r, k => if x.1 = k then x.2 else getP r k
def putP (s : List En) (k : ByteArray) (p : Pr) : List En := s.filter (fun x => ltK x.1 k) ++ (if p = ([], []) then [] else [(k, p)]) ++ s.filter (fun x => ltK k x.1)
theorem getP_or (s : List En) (k : ByteArray) : (getP s k = ([], []) ∧ ∀ x ∈ s, x.1 ≠ k) ∨ ∃ x ∈ s, x.1 = k ∧ getP s k = x.2 := by
 induction s with
 | nil => exact .inl ⟨rfl, fun x hx => by cases hx⟩
 | cons a r ih =>
  by_cases h : a.1 = k
  ·exact .inr ⟨a, List.mem_cons_self, h, by simp [getP, h]⟩
  ·rcases ih with ⟨h1, h2⟩ | ⟨x, h1, h2, h3⟩
   ·refine .inl ⟨by simp [getP, h, h1], fun x hx => ?_⟩
    rcases List.mem_cons.1 hx with rfl | hx
    ·exact h
    ·exact h2 x hx
   ·exact .inr ⟨x, List.mem_cons_of_mem _ h1, h2, by simp [getP, h, h3]⟩
theorem srtP_put {s : List En} (hs : SrtK s) (k : ByteArray) (p : Pr) : SrtK (putP s k p) := by
 unfold putP SrtK
 rw [List.append_assoc, List.pairwise_append, List.pairwise_append]
 refine ⟨List.Pairwise.filter _ hs, ⟨?_, List.Pairwise.filter _ hs, ?_⟩, ?_⟩
 ·split <;> simp
 ·intro a ha b hb
  split at ha
  ·cases ha
  ·simp only [List.mem_singleton] at ha
   subst ha
   exact (List.mem_filter.1 hb).2
 ·intro a ha b hb
  have ha := (List.mem_filter.1 ha).2
  rcases List.mem_append.1 hb with hb | hb
  ·split at hb
   ·cases hb
   ·simp only [List.mem_singleton] at hb
    subst hb
    exact ha
  ·exact ltK_trans ha (List.mem_filter.1 hb).2
theorem memP_put {s : List En} {k : ByteArray} {p : Pr} {x : En} : x ∈ putP s k p ↔ (x ∈ s ∧ x.1 ≠ k) ∨ (p ≠ ([], []) ∧ x = (k, p)) := by
 unfold putP
 simp only [List.mem_append, List.mem_filter]
 constructor
 ·rintro ((⟨h1, h2⟩ | h) | ⟨h1, h2⟩)
  ·exact .inl ⟨h1, ltK_ne h2⟩
  ·split at h
   ·cases h
   ·exact .inr ⟨by assumption, by simpa using h⟩
  ·exact .inl ⟨h1, (ltK_ne h2).symm⟩
 ·rintro (⟨h1, h2⟩ | ⟨h1, rfl⟩)
  ·rcases hb : ltK x.1 k with _ | _
   ·rcases hc : ltK k x.1 with _ | _
    ·exact absurd (ltK_tri hb hc) h2
    ·exact .inr ⟨h1, rfl⟩
   ·exact .inl (.inl ⟨h1, rfl⟩)
  ·exact .inl (.inr (by rw [if_neg h1]; exact List.mem_singleton.2 rfl))
theorem putP_len (s : List En) (k : ByteArray) (p : Pr) : (putP s k p).length ≤ s.length + 1 := by
 have h : ∀ t : List En, (t.filter (fun x => ltK x.1 k)).length + (t.filter (fun x => ltK k x.1)).length ≤ t.length := by
  intro t
  induction t with
  | nil => simp
  | cons a r ih =>
   rcases h1 : ltK a.1 k with _ | _
   ·rcases h2 : ltK k a.1 with _ | _ <;> simp [h1, h2] <;> omega
   ·have h2 := ltK_asym h1
    simp [h1, h2]
    omega
 have := h s
 unfold putP
 simp only [List.length_append]
 split <;> simp <;> omega
def mapP (f : Pr → Pr) (s : List En) : List En := (s.map fun x => (x.1, f x.2)).filter fun x => decide (x.2 ≠ ([], []))
theorem srt_map {f : Pr → Pr} {s : List En} (hs : SrtK s) : SrtK (mapP f s) := by
 unfold mapP SrtK
 refine List.Pairwise.filter _ ?_
 rw [List.pairwise_map]
 exact hs
theorem mem_map9 {f : Pr → Pr} {s : List En} {y : En} : y ∈ mapP f s ↔ ∃ x ∈ s, y = (x.1, f x.2) ∧ f x.2 ≠ ([], []) := by
 unfold mapP
 rw [List.mem_filter, List.mem_map]
 constructor
 ·rintro ⟨⟨x, hx, rfl⟩, h⟩
  exact ⟨x, hx, rfl, by simpa using h⟩
 ·rintro ⟨x, hx, rfl, h⟩
  exact ⟨⟨x, hx, rfl⟩, by simpa using h⟩
def cleanF (c : List Int) (p : Pr) : Pr := (p.1, leftD p.2 c)
def plainF (p : Pr) : Pr := (p.1, [])
def dropP (s : List En) (k : ByteArray) (d : Dot) (c : List Int) : List En := putP s k ([], putD (leftD (getP s k).2 c) d)
def addP (s : List En) (k : ByteArray) (d : Dot) (c : List Int) : List En := if leftD (getP s k).2 c = [] then putP s k (putD (leftD (getP s k).1 c) d, (getP s k).2) else s
end Go.Proofs.YtkbbegbpkndebaaGreat

/- Which sets of layer 9 may be; cleaned and plain as the document puts them; what drops leave. -/
namespace Go.Proofs.YtkbbegbpkndebaaGreat
set_option linter.unusedVariables false
def mayN9 (x : En) : Bool := mayK x.1 && decide (x.2 ≠ ([], [])) && rowsB x.2.1 && rowsB x.2.2
def mayS9 (s : List En) : Bool := s.all mayN9 && risB s && decide (s.length ≤ 4000)
theorem mayN9_iff {x : En} : mayN9 x = true ↔ mayK x.1 = true ∧ x.2 ≠ ([], []) ∧ rowsB x.2.1 = true ∧ rowsB x.2.2 = true := by
 unfold mayN9
 rw [Bool.and_eq_true, Bool.and_eq_true, Bool.and_eq_true, decide_eq_true_iff]
 exact ⟨fun h => ⟨h.1.1.1, h.1.1.2, h.1.2, h.2⟩, fun h => ⟨⟨⟨h.1, h.2.1⟩, h.2.2.1⟩, h.2.2.2⟩⟩
theorem mayS9_iff {s : List En} : mayS9 s = true ↔ (∀ x ∈ s, mayN9 x = true) ∧ SrtK s ∧ s.length ≤ 4000 := by
 simp [mayS9, risB_iff, and_assoc]
theorem rows9_get {s : List En} (hs : mayS9 s = true) (k : ByteArray) : rowsB (getP s k).1 = true ∧ rowsB (getP s k).2 = true := by
 rcases getP_or s k with ⟨e, _⟩ | ⟨x, hx, _, e⟩
 ·rw [e]; exact ⟨by decide, by decide⟩
 ·rw [e]; exact (mayN9_iff.1 ((mayS9_iff.1 hs).1 x hx)).2.2
theorem mayS9_put {s : List En} (hs : mayS9 s = true) {k : ByteArray} (hk : mayK k = true) {p : Pr} (h1 : rowsB p.1 = true) (h2 : rowsB p.2 = true) (hn : s.length < 4000) : mayS9 (putP s k p) = true := by
 obtain ⟨q1, q2, q3⟩ := mayS9_iff.1 hs
 refine mayS9_iff.2 ⟨fun x hx => ?_, srtP_put q2 k p, by have := putP_len s k p; omega⟩
 rcases memP_put.1 hx with ⟨h, _⟩ | ⟨h, rfl⟩
 ·exact q1 x h
 ·exact mayN9_iff.2 ⟨hk, h, h1, h2⟩
theorem mayS9_drop {s : List En} (hs : mayS9 s = true) {k : ByteArray} (hk : mayK k = true) {d : Dot} (hd : mayD d = true) (c : List Int) (hn : s.length < 4000) : mayS9 (dropP s k d c) = true :=
 mayS9_put hs hk (show rowsB [] = true by decide) (rowsB_putD (rowsB_left (rows9_get hs k).2 c) hd) hn
theorem mayS9_add {s : List En} (hs : mayS9 s = true) {k : ByteArray} (hk : mayK k = true) {d : Dot} (hd : mayD d = true) (c : List Int) (hn : s.length < 4000) : mayS9 (addP s k d c) = true := by
 unfold addP
 split
 ·exact mayS9_put hs hk (rowsB_putD (rowsB_left (rows9_get hs k).1 c) hd) (rows9_get hs k).2 hn
 ·exact hs
theorem left_len (l : List Dot) (c : List Int) : (leftD l c).length ≤ l.length := List.length_filter_le _ _
/-! As the document puts them, one entry behind the other -/
theorem putP_last {s : List En} {x : En} {p : Pr} (h : ∀ y ∈ s, ltK y.1 x.1 = true) : putP s x.1 p = s ++ (if p = ([], []) then [] else [(x.1, p)]) := by
 unfold putP
 rw [List.filter_eq_self.2 h, List.filter_eq_nil_iff.2, List.append_nil]
 intro y hy q
 rw [ltK_asym (h y hy)] at q
 cases q
theorem mapP_snoc (f : Pr → Pr) (s : List En) (x : En) : mapP f (s ++ [x]) = mapP f s ++ (if f x.2 = ([], []) then [] else [(x.1, f x.2)]) := by
 unfold mapP
 rw [List.map_append, List.filter_append]
 by_cases h : f x.2 = ([], [])
 ·simp [h]
 ·simp [h]
theorem map_step {f : Pr → Pr} {s : List En} (hs : SrtK s) {i : Nat} {x : En} (hx : s[i]? = some x) : mapP f (s.take (i + 1)) = putP (mapP f (s.take i)) x.1 (f x.2) := by
 rw [take_snocL hx, mapP_snoc, putP_last]
 intro y hy
 obtain ⟨z, hz, rfl, _⟩ := mem_map9.1 hy
 obtain ⟨j, hj⟩ := List.mem_iff_getElem?.1 hz
 rw [List.getElem?_take] at hj
 split at hj
 ·exact (show ltK z.1 x.1 = true from srt_lt hs hj hx (by assumption))
 ·cases hj
end Go.Proofs.YtkbbegbpkndebaaGreat

/- Rows with keys in order: a key's row, a row put, taken out; where a key stands: in plain mathematics, of any rows. -/
namespace Go.Proofs.YtkbbegbpkndebaaGreat
set_option linter.unusedVariables false
section
variable {α : Type} (key : α → ByteArray)
def SrtG (s : List α) : Prop := s.Pairwise (fun a b => ltK (key a) (key b) = true)
def getG : List α → ByteArray → Option α
 | [], _ => none
 | x :: r, k => if key x = k then some x else getG r k
def putG (s : List α) (k : ByteArray) (x : Option α) : List α := s.filter (fun y => ltK (key y) k) ++ x.toList ++ s.filter (fun y => ltK k (key y))
def risG : List α → Bool
 | [] => true
 | [_] => true
 | a :: b :: r => ltK (key a) (key b) && risG (b :: r)
variable {key}
theorem risG_iff : ∀ {s : List α}, risG key s = true ↔ SrtG key s
 | [] => by simp [risG, SrtG]
 | [a] => by simp [risG, SrtG]
 | a :: b :: r => by
  have ih := @risG_iff (b :: r)
  simp only [risG, Bool.and_eq_true, ih, SrtG, List.pairwise_cons]
  constructor
  ·rintro ⟨h, k⟩
   refine ⟨fun x hx => ?_, k⟩
   rcases List.mem_cons.1 hx with rfl | hx
   ·exact h
   ·exact ltK_trans h (k.1 x hx)
  ·rintro ⟨h, k⟩
   exact ⟨h b List.mem_cons_self, k⟩
theorem srtG_put {s : List α} (hs : SrtG key s) (k : ByteArray) {x : Option α} (hx : ∀ y, x = some y → key y = k) : SrtG key (putG key s k x) := by
 unfold putG SrtG
 rw [List.append_assoc, List.pairwise_append, List.pairwise_append]
 have hm : ∀ y ∈ x.toList, key y = k := fun y hy => hx y (by simpa using hy)
 refine ⟨List.Pairwise.filter _ hs, ⟨?_, List.Pairwise.filter _ hs, ?_⟩, ?_⟩
 ·rcases x with _ | x <;> simp
 ·intro a ha b hb
  rw [hm a ha]
  exact (List.mem_filter.1 hb).2
 ·intro a ha b hb
  have ha := (List.mem_filter.1 ha).2
  rcases List.mem_append.1 hb with hb | hb
  ·rw [hm b hb]
   exact ha
  ·exact ltK_trans ha (List.mem_filter.1 hb).2
theorem memG_put {s : List α} {k : ByteArray} {x : Option α} {y : α} : y ∈ putG key s k x ↔ (y ∈ s ∧ key y ≠ k) ∨ x = some y := by
 unfold putG
 simp only [List.mem_append, List.mem_filter, Option.mem_toList]
 constructor
 ·rintro ((⟨h1, h2⟩ | h) | ⟨h1, h2⟩)
  ·exact .inl ⟨h1, ltK_ne h2⟩
  ·exact .inr h
  ·exact .inl ⟨h1, (ltK_ne h2).symm⟩
 ·rintro (⟨h1, h2⟩ | h)
  ·rcases hb : ltK (key y) k with _ | _
   ·rcases hc : ltK k (key y) with _ | _
    ·exact absurd (ltK_tri hb hc) h2
    ·exact .inr ⟨h1, rfl⟩
   ·exact .inl (.inl ⟨h1, rfl⟩)
  ·exact .inl (.inr h)
theorem putG_len (s : List α) (k : ByteArray) (x : Option α) : (putG key s k x).length ≤ s.length + 1 := by
 have h : ∀ t : List α, (t.filter (fun x => ltK (key x) k)).length + (t.filter (fun x => ltK k (key x))).length ≤ t.length := by
  intro t
  induction t with
  | nil => simp
  | cons a r ih =>
   rcases h1 : ltK (key a) k with _ | _
   ·rcases h2 : ltK k (key a) with _ | _ <;> simp [h1, h2] <;> omega
   ·have h2 := ltK_asym h1
    simp [h1, h2]
    omega
 have := h s
 unfold putG
 simp only [List.length_append]
 rcases x with _ | x <;> simp <;> omega
theorem srtG_lt {s : List α} (hs : SrtG key s) {i j : Nat} {x y : α} (hi : s[i]? = some x) (hj : s[j]? = some y) (h : i < j) : ltK (key x) (key y) = true := by
 obtain ⟨h1, e1⟩ := List.getElem?_eq_some_iff.1 hi
 obtain ⟨h2, e2⟩ := List.getElem?_eq_some_iff.1 hj
 have := List.pairwise_iff_getElem.1 hs i j h1 h2 h
 rw [e1, e2] at this
 exact this
theorem takeG_snoc {l : List α} {k : Nat} {x : α} (h : l[k]? = some x) : l.take (k + 1) = l.take k ++ [x] := by
 obtain ⟨hk, rfl⟩ := List.getElem?_eq_some_iff.1 h
 rw [List.take_succ_eq_append_getElem hk]
theorem stepG {may : α → Bool} {s : List α} {k : Nat} {x : α} (hx : s[k]? = some x) (h : (s.take k).all may = true ∧ SrtG key (s.take k)) (hd : may x = true) (hp : ∀ j y, k = j + 1 → s[j]? = some y → ltK (key y) (key x) = true) : (s.take (k + 1)).all may = true ∧ SrtG key (s.take (k + 1)) := by
 rw [takeG_snoc hx]
 refine ⟨by simp [h.1, hd], ?_⟩
 have h2 := h.2
 unfold SrtG at *
 rw [List.pairwise_append]
 refine ⟨h2, List.pairwise_singleton _ _, fun z hz y hy => ?_⟩
 simp at hy
 subst hy
 obtain ⟨i, hi⟩ := List.mem_iff_getElem?.1 hz
 rw [List.getElem?_take] at hi
 split at hi
 ·rename_i hik
  obtain ⟨j, rfl⟩ : ∃ j, k = j + 1 := ⟨k - 1, by omega⟩
  have hjl : j < s.length := by have := (List.getElem?_eq_some_iff.1 hx).1; omega
  have hj : s[j]? = some s[j] := List.getElem?_eq_getElem hjl
  have h3 := hp j _ rfl hj
  rcases Nat.lt_or_ge i j with hij | hij
  ·have hil : i < s.length := by omega
   have := List.pairwise_iff_getElem.1 h2 i j (by rw [List.length_take]; omega) (by rw [List.length_take]; omega) hij
   rw [List.getElem_take, List.getElem_take] at this
   rw [List.getElem?_eq_getElem hil] at hi
   cases hi
   exact ltK_trans this h3
  ·obtain rfl : i = j := by omega
   rw [hj] at hi
   cases hi
   exact h3
 ·cases hi
theorem stepGS {may : α → Bool} {s : List α} {j : Nat} {c x : α} (hx : s[j + 1]? = some x) (hc : s[j]? = some c) (h : (s.take (j + 1)).all may = true ∧ SrtG key (s.take (j + 1))) (hd : may x = true) (hl : ltK (key c) (key x) = true) : (s.take (j + 1 + 1)).all may = true ∧ SrtG key (s.take (j + 1 + 1)) := by
 refine stepG hx h hd (fun i e hi he => ?_)
 obtain rfl : i = j := by omega
 rw [hc] at he
 cases he
 exact hl
def mayG (key : α → ByteArray) (may : α → Bool) (s : List α) : Bool := s.all may && risG key s && decide (s.length ≤ 4000)
theorem mayG_iff {may : α → Bool} {s : List α} : mayG key may s = true ↔ (∀ x ∈ s, may x = true) ∧ SrtG key s ∧ s.length ≤ 4000 := by
 simp [mayG, risG_iff, and_assoc]
theorem mayG_no {may : α → Bool} {s : List α} {k : Nat} {x : α} (hx : s[k]? = some x) (h : may x = false) : mayG key may s = false := by
 rcases hb : mayG key may s with _ | _
 ·rfl
 ·have := (mayG_iff.1 hb).1 x (List.mem_of_getElem? hx)
  rw [h] at this
  cases this
theorem mayG_less {may : α → Bool} {s : List α} {j : Nat} {c d : α} (hc : s[j]? = some c) (hd : s[j + 1]? = some d) (h : ltK (key c) (key d) = false) : mayG key may s = false := by
 rcases hb : mayG key may s with _ | _
 ·rfl
 ·have := srtG_lt (mayG_iff.1 hb).2.1 hc hd (by omega)
  rw [h] at this
  cases this
theorem mayG_put {may : α → Bool} {s : List α} (hs : mayG key may s = true) (k : ByteArray) {x : Option α} (hx : ∀ y, x = some y → key y = k ∧ may y = true) (hn : s.length < 4000) : mayG key may (putG key s k x) = true := by
 obtain ⟨q1, q2, q3⟩ := mayG_iff.1 hs
 refine mayG_iff.2 ⟨fun y hy => ?_, srtG_put q2 k (fun y h => (hx y h).1), by have := putG_len (key := key) s k x; omega⟩
 rcases memG_put.1 hy with ⟨h, _⟩ | h
 ·exact q1 y h
 ·exact (hx y h).2
end
end Go.Proofs.YtkbbegbpkndebaaGreat

/- Tallies (layer 10), in plain mathematics: which may be, a key's number, more added; the theorems of order and of sums. -/
namespace Go.Proofs.YtkbbegbpkndebaaGreat
set_option linter.unusedVariables false
abbrev Ce := ByteArray × Int
abbrev kC : Ce → ByteArray := Prod.fst
def big40 : Int := 1099511627776
def mayCe (x : Ce) : Bool := mayK x.1 && decide (x.2 ≠ 0 ∧ -big40 ≤ x.2 ∧ x.2 ≤ big40)
theorem mayCe_iff {x : Ce} : mayCe x = true ↔ mayK x.1 = true ∧ x.2 ≠ 0 ∧ -big40 ≤ x.2 ∧ x.2 ≤ big40 := by simp [mayCe]
abbrev mayT (s : List Ce) : Bool := mayG kC mayCe s
def numT (s : List Ce) (k : ByteArray) : Int := match getG kC s k with
 | none => 0
 | some x => x.2
def celT (k : ByteArray) (n : Int) : Option Ce := if n = 0 then none else some (k, n)
def setT (s : List Ce) (k : ByteArray) (n : Int) : List Ce := putG kC s k (celT k n)
def addT (s : List Ce) (k : ByteArray) (n : Int) : List Ce := setT s k (numT s k + n)
end Go.Proofs.YtkbbegbpkndebaaGreat

/- Accounts (layer 11), in plain mathematics: which may be, a key's number, rights, more had, moved. -/
namespace Go.Proofs.YtkbbegbpkndebaaGreat
set_option linter.unusedVariables false
abbrev Ac := ByteArray × List Int
abbrev kA : Ac → ByteArray := Prod.fst
def top40 : Int := 1099511627776
abbrev in40 (x : Int) : Bool := decide (-top40 ≤ x ∧ x ≤ top40)
abbrev nzA (x : Int) : Bool := decide (x ≠ 0)
def mayAc (x : Ac) : Bool := mayK x.1 && decide (x.2.length = 5) && x.2.all in40 && x.2.any nzA
theorem mayAc_iff {x : Ac} : mayAc x = true ↔ mayK x.1 = true ∧ x.2.length = 5 ∧ x.2.all in40 = true ∧ x.2.any nzA = true := by simp [mayAc, and_assoc]
abbrev mayA (s : List Ac) : Bool := mayG kA mayAc s
def nul5 : List Int := [0, 0, 0, 0, 0]
def atH (h : List Int) (j : Nat) : Int := h.getD j 0
def havA (s : List Ac) (k : ByteArray) : List Int := match getG kA s k with
 | none => nul5
 | some x => x.2
def accA (k : ByteArray) (h : List Int) : Option Ac := if h.any nzA = true then some (k, h) else none
def setA (s : List Ac) (k : ByteArray) (h : List Int) : List Ac := putG kA s k (accA k h)
def incA (h : List Int) (r : Nat) (n : Int) : List Int := h.set (r - 1) (atH h (r - 1) + n)
def addA (s : List Ac) (k : ByteArray) (r : Nat) (n : Int) : List Ac := setA s k (incA (havA s k) r n)
def FvA (s : List Ac) : Prop := ∀ x ∈ s, x.2.length = 5
end Go.Proofs.YtkbbegbpkndebaaGreat

/- Registers (layer 12), in plain mathematics: which notes may be, which is later, a note set; the theorem of order. -/
namespace Go.Proofs.YtkbbegbpkndebaaGreat
set_option linter.unusedVariables false
abbrev Nt := ByteArray × Int × Int × ByteArray
abbrev kN : Nt → ByteArray := Prod.fst
def mayNt (x : Nt) : Bool := mayK x.1 && decide (1 ≤ x.2.1 ∧ x.2.1 ≤ 1099511627776) && decide (1 ≤ x.2.2.1 ∧ x.2.2.1 ≤ 5) && decide (x.2.2.2.size ≤ 64)
theorem mayNt_iff {x : Nt} : mayNt x = true ↔ mayK x.1 = true ∧ (1 ≤ x.2.1 ∧ x.2.1 ≤ 1099511627776) ∧ (1 ≤ x.2.2.1 ∧ x.2.2.1 ≤ 5) ∧ x.2.2.2.size ≤ 64 := by
 unfold mayNt
 rw [Bool.and_eq_true, Bool.and_eq_true, Bool.and_eq_true, decide_eq_true_iff, decide_eq_true_iff, decide_eq_true_iff]
 exact ⟨fun h => ⟨h.1.1.1, h.1.1.2, h.1.2, h.2⟩, fun h => ⟨⟨⟨h.1, h.2.1⟩, h.2.2.1⟩, h.2.2.2⟩⟩
abbrev mayR12 (s : List Nt) : Bool := mayG kN mayNt s
def laterN (a b : Nt) : Bool := if a.2.1 ≠ b.2.1 then decide (b.2.1 < a.2.1) else if a.2.2.1 ≠ b.2.2.1 then decide (b.2.2.1 < a.2.2.1) else ltK b.2.2.2 a.2.2.2
def setN (s : List Nt) (n : Nt) : List Nt := match getG kN s n.1 with
 | none => putG kN s n.1 (some n)
 | some was => if laterN n was = true then putG kN s n.1 (some n) else s
theorem setN_len (s : List Nt) (n : Nt) : (setN s n).length ≤ s.length + 1 := by
 unfold setN
 have := putG_len (key := kN) s n.1 (some n)
 split
 ·exact this
 ·split
  ·exact this
  ·omega
theorem setN_may {s : List Nt} (h : mayR12 s = true) {n : Nt} (hn : mayNt n = true) (hl : s.length < 4000) : mayR12 (setN s n) = true := by
 have q : mayR12 (putG kN s n.1 (some n)) = true := mayG_put h n.1 (fun y hy => by cases hy; exact ⟨rfl, hn⟩) hl
 unfold setN
 split
 ·exact q
 ·split
  ·exact q
  ·exact h
end Go.Proofs.YtkbbegbpkndebaaGreat

/- All things (layer 13), in plain mathematics: kinds, raw, and what events do to them. -/
namespace Go.Proofs.YtkbbegbpkndebaaGreat
set_option linter.unusedVariables false
abbrev Kd := List Bool × List (Bool × Int) × Int
abbrev Rw := List (List En) × List (List Ce) × List (List Ac) × List (List Nt)
def floB (f : Bool × Int) : Bool := decide (f.2 ≤ 0 ∧ -1000 ≤ f.2) && (f.1 || decide (f.2 = 0))
def kindsB (k : Kd) : Bool := k.2.1.all floB && decide (k.1.length ≤ 6 ∧ k.2.1.length ≤ 4 ∧ 0 ≤ k.2.2 ∧ k.2.2 ≤ 3)
def setB (r : Bool) (s : List En) : Bool := if r = true then mayS9 s else mayS s
def cntB (f : Bool × Int) (t : List Ce) (a : List Ac) : Bool := mayT t && mayA a && (if f.1 = true then decide (t = []) else decide (a = []))
def lensB (k : Kd) (w : Rw) : Bool := decide (w.1.length = k.1.length ∧ w.2.1.length = k.2.1.length ∧ w.2.2.1.length = k.2.1.length ∧ (w.2.2.2.length : Int) = k.2.2)
def mayW (k : Kd) (w : Rw) : Bool := kindsB k && lensB k w && ((k.1.zip w.1).all fun x => setB x.1 x.2) && ((k.2.1.zip (w.2.1.zip w.2.2.1)).all fun x => cntB x.1 x.2.1 x.2.2) && w.2.2.2.all mayR12
theorem zip_all {α β : Type} {a : List α} {b : List β} {p : α → β → Bool} : ((a.zip b).all fun x => p x.1 x.2) = true ↔ ∀ (i : Nat) x y, a[i]? = some x → b[i]? = some y → p x y = true := by
 rw [List.all_eq_true]
 constructor
 ·intro h i x y hx hy
  refine h (x, y) (List.mem_of_getElem? (i := i) ?_)
  rw [List.getElem?_zip_eq_some]
  exact ⟨hx, hy⟩
 ·intro h z hz
  obtain ⟨i, hi⟩ := List.mem_iff_getElem?.1 hz
  rw [List.getElem?_zip_eq_some] at hi
  exact h i _ _ hi.1 hi.2
theorem lensB_iff {k : Kd} {w : Rw} : lensB k w = true ↔ w.1.length = k.1.length ∧ w.2.1.length = k.2.1.length ∧ w.2.2.1.length = k.2.1.length ∧ (w.2.2.2.length : Int) = k.2.2 := by unfold lensB; rw [decide_eq_true_iff]
theorem mayW_iff {k : Kd} {w : Rw} : mayW k w = true ↔ kindsB k = true ∧ lensB k w = true ∧ (∀ (i : Nat) r s, k.1[i]? = some r → w.1[i]? = some s → setB r s = true) ∧ (∀ (i : Nat) f t a, k.2.1[i]? = some f → w.2.1[i]? = some t → w.2.2.1[i]? = some a → cntB f t a = true) ∧ ∀ g ∈ w.2.2.2, mayR12 g = true := by
 unfold mayW
 rw [Bool.and_eq_true, Bool.and_eq_true, Bool.and_eq_true, Bool.and_eq_true, zip_all (p := setB), zip_all (p := fun (f : Bool × Int) (x : List Ce × List Ac) => cntB f x.1 x.2), List.all_eq_true]
 constructor
 ·rintro ⟨⟨⟨⟨h1, h2⟩, h3⟩, h4⟩, h5⟩
  exact ⟨h1, h2, h3, fun i f t a hf ht ha => h4 i f (t, a) hf (List.getElem?_zip_eq_some.2 ⟨ht, ha⟩), h5⟩
 ·rintro ⟨h1, h2, h3, h4, h5⟩
  refine ⟨⟨⟨⟨h1, h2⟩, h3⟩, fun i f x hf hx => ?_⟩, h5⟩
  have := List.getElem?_zip_eq_some.1 hx
  exact h4 i f x.1 x.2 hf this.1 this.2
def fitF (k : Kd) (x : Eff) : Bool := if x.1 = 1 ∨ x.1 = 2 then decide (x.2.1 < (k.1.length : Int)) else if x.1 = 6 then decide (x.2.1 < k.2.2) else decide (x.2.1 < (k.2.1.length : Int)) && (decide (x.1 ≠ 5) || (k.2.1.getD x.2.1.toNat (false, 0)).1)
def fitsW (k : Kd) (e : Evt) : Bool := e.2.2.all (fitF k)
def newW (k : Kd) : Rw := (List.replicate k.1.length [], List.replicate k.2.1.length [], List.replicate k.2.1.length [], List.replicate k.2.2.toNat [])
/-! What an effect does to the things of a number -/
def ofN (x : Eff) : Nat := x.2.1.toNat
def wordN (x : Eff) : ByteArray := strOfNums x.2.2.2.2.2
def dS (r : Bool) (e : Evt) (o : Int) (s : List En) (x : Eff) : List En :=
 if x.2.1 = o ∧ x.1 = 2 then (if r = true then dropP s (kOf x) e.1 e.2.1 else if doesB e 1 o (kOf x) = false then dropS s (kOf x) e.2.1 else s) else s
def aS (r : Bool) (e : Evt) (o : Int) (s : List En) (x : Eff) : List En :=
 if x.2.1 = o ∧ x.1 = 1 then (if r = true then (if doesB e 2 o (kOf x) = false then addP s (kOf x) e.1 e.2.1 else s) else addS s (kOf x) e.1 e.2.1) else s
def tS (f : Bool) (o : Int) (t : List Ce) (x : Eff) : List Ce :=
 if x.2.1 = o ∧ f = false ∧ x.1 = 3 then addT t (kOf x) x.2.2.2.1 else if x.2.1 = o ∧ f = false ∧ x.1 = 4 then addT t (kOf x) (-x.2.2.2.1) else t
def cS (f : Bool) (d : Dot) (o : Int) (a : List Ac) (x : Eff) : List Ac :=
 if x.2.1 = o ∧ f = true ∧ x.1 = 3 then addA a (kOf x) d.1.toNat x.2.2.2.1 else if x.2.1 = o ∧ f = true ∧ x.1 = 4 then addA a (kOf x) d.1.toNat (-x.2.2.2.1)
 else if x.2.1 = o ∧ x.1 = 5 ∧ x.2.2.2.2.1 ≠ d.1 then addA (addA a (kOf x) d.1.toNat (-x.2.2.2.1)) (kOf x) x.2.2.2.2.1.toNat x.2.2.2.1 else a
def ntE (d : Dot) (c : List Int) (x : Eff) : Nt := (kOf x, sumL c + 1, d.1, wordN x)
def gS (d : Dot) (c : List Int) (o : Int) (g : List Nt) (x : Eff) : List Nt := if x.2.1 = o ∧ x.1 = 6 then setN g (ntE d c x) else g
abbrev rK (k : Kd) (i : Nat) : Bool := k.1.getD i false
abbrev fK (k : Kd) (i : Nat) : Bool := (k.2.1.getD i (false, 0)).1
def dropW (k : Kd) (e : Evt) (w : Rw) (x : Eff) : Rw := (w.1.mapIdx (fun i s => dS (rK k i) e i s x), w.2)
def othW (k : Kd) (e : Evt) (w : Rw) (x : Eff) : Rw :=
 (w.1.mapIdx (fun i s => aS (rK k i) e i s x), w.2.1.mapIdx (fun i t => tS (fK k i) i t x), w.2.2.1.mapIdx (fun i a => cS (fK k i) e.1 i a x), w.2.2.2.mapIdx (fun i g => gS e.1 e.2.1 i g x))
def okW (w : Rw) (x : Eff) : Bool := decide (¬ (2 < x.1 ∧ x.1 < 6)) || (mayT (w.2.1.getD (ofN x) []) && mayA (w.2.2.1.getD (ofN x) []))
def stepsW (k : Kd) (e : Evt) : List Eff → Rw → Option Rw
 | [], w => some w
 | x :: xs, w => if okW (othW k e w x) x = true then stepsW k e xs (othW k e w x) else none
def applyW (k : Kd) (w : Rw) (e : Evt) : Option Rw := stepsW k e e.2.2 (e.2.2.foldl (dropW k e) w)
def plainW (k : Kd) (w : Rw) : Rw := (w.1.mapIdx (fun i s => if rK k i = true then mapP plainF s else s), w.2)
def cleanW (k : Kd) (w : Rw) (c : List Int) : Rw := (w.1.mapIdx (fun i s => if rK k i = true then mapP (cleanF c) s else s), w.2)
/-! Step by step is thing by thing -/
theorem mapIdx_id {α : Type} {f : Nat → α → α} {l : List α} (h : ∀ (i : Nat) x, l[i]? = some x → f i x = x) : l.mapIdx f = l := by
 apply List.ext_getElem?
 intro i
 rw [List.getElem?_mapIdx]
 rcases hx : l[i]? with _ | x
 ·rfl
 ·simp only [Option.map_some]
  rw [h i x hx]
theorem mapIdx_set {α : Type} {f : Nat → α → α} {l : List α} {j : Nat} {x : α} (hj : l[j]? = some x) (h : ∀ (i : Nat) y, i ≠ j → l[i]? = some y → f i y = y) : l.mapIdx f = l.set j (f j x) := by
 apply List.ext_getElem?
 intro i
 rw [List.getElem?_mapIdx, List.getElem?_set]
 by_cases hi : j = i
 ·subst hi
  rw [if_pos rfl, hj]
  have := (List.getElem?_eq_some_iff.1 hj).1
  simp [this]
 ·rw [if_neg hi]
  rcases hx : l[i]? with _ | y
  ·rfl
  ·simp only [Option.map_some]
   rw [h i y (Ne.symm hi) hx]
end Go.Proofs.YtkbbegbpkndebaaGreat

