/- Rows with keys in order: a key's row, a row put, taken out; where a key stands: in plain mathematics, of any rows. -/
import Derived.Test.YtadmibfnjhockaaDoorK0
namespace Go.Proofs.YtadmibfnjhockaaDoor
set_option linter.unusedVariables false
section
variable {α : Type} (key : α → ByteArray)
/-- Keys rise. -/
def SrtG (s : List α) : Prop := s.Pairwise (fun a b => ltK (key a) (key b) = true)
/-- A key's row. -/
def getG : List α → ByteArray → Option α
  | [], _ => none
  | x :: r, k => if key x = k then some x else getG r k
/-- A set with a key's row, or without. -/
def putG (s : List α) (k : ByteArray) (x : Option α) : List α := s.filter (fun y => ltK (key y) k) ++ x.toList ++ s.filter (fun y => ltK k (key y))
/-- Keys rise from one to the next. -/
def risG : List α → Bool
  | [] => true
  | [_] => true
  | a :: b :: r => ltK (key a) (key b) && risG (b :: r)
variable {key}
theorem risG_iff : ∀ {s : List α}, risG key s = true ↔ SrtG key s
  | [] => by simp [risG, SrtG]
  | [a] => by simp [risG, SrtG]
  | a :: b :: r => by
    have ih := @risG_iff (b :: r)
    simp only [risG, Bool.and_eq_true, ih, SrtG, List.pairwise_cons]
    constructor
    · rintro ⟨h, k⟩
      refine ⟨fun x hx => ?_, k⟩
      rcases List.mem_cons.1 hx with rfl | hx
      · exact h
      · exact ltK_trans h (k.1 x hx)
    · rintro ⟨h, k⟩
      exact ⟨h b List.mem_cons_self, k⟩
theorem getG_mem {s : List α} (hs : SrtG key s) {x : α} (hx : x ∈ s) : getG key s (key x) = some x := by
  induction s with
  | nil => cases hx
  | cons a r ih =>
    obtain ⟨h1, h2⟩ := List.pairwise_cons.1 hs
    rcases List.mem_cons.1 hx with rfl | hx
    · simp [getG]
    · have : key a ≠ key x := ltK_ne (h1 x hx)
      simp only [getG, if_neg this]
      exact ih h2 hx
theorem getG_not {s : List α} {k : ByteArray} (h : ∀ x ∈ s, key x ≠ k) : getG key s k = none := by
  induction s with
  | nil => rfl
  | cons a r ih =>
    rw [getG, if_neg (h a List.mem_cons_self)]
    exact ih (fun x hx => h x (List.mem_cons_of_mem _ hx))
theorem getG_or (s : List α) (k : ByteArray) : (getG key s k = none ∧ ∀ x ∈ s, key x ≠ k) ∨ ∃ x ∈ s, key x = k ∧ getG key s k = some x := by
  induction s with
  | nil => exact .inl ⟨rfl, fun x hx => by cases hx⟩
  | cons a r ih =>
    by_cases h : key a = k
    · exact .inr ⟨a, List.mem_cons_self, h, by simp [getG, h]⟩
    · rcases ih with ⟨h1, h2⟩ | ⟨x, h1, h2, h3⟩
      · refine .inl ⟨by simp [getG, h, h1], fun x hx => ?_⟩
        rcases List.mem_cons.1 hx with rfl | hx
        · exact h
        · exact h2 x hx
      · exact .inr ⟨x, List.mem_cons_of_mem _ h1, h2, by simp [getG, h, h3]⟩
theorem getG_some {s : List α} {k : ByteArray} {x : α} (h : getG key s k = some x) : x ∈ s ∧ key x = k := by
  rcases getG_or (key := key) s k with ⟨e, _⟩ | ⟨y, h1, h2, h3⟩
  · rw [e] at h; cases h
  · rw [h3] at h; cases h; exact ⟨h1, h2⟩
theorem getG_yes {s : List α} {k : Nat} {x : α} {t : ByteArray} (hb : ∀ y ∈ s.take k, key y ≠ t) (hx : s[k]? = some x) (he : key x = t) : getG key s t = some x := by
  have e : s = s.take k ++ x :: s.drop (k + 1) := by
    have hk := (List.getElem?_eq_some_iff.1 hx).1
    conv => lhs; rw [← List.take_append_drop k s]
    rw [List.drop_eq_getElem_cons hk, (List.getElem?_eq_some_iff.1 hx).2]
  have q : ∀ (u v : List α), (∀ y ∈ u, key y ≠ t) → getG key (u ++ v) t = getG key v t := by
    intro u v
    induction u with
    | nil => intro _; rfl
    | cons a r ih =>
      intro h
      rw [List.cons_append, getG, if_neg (h a List.mem_cons_self)]
      exact ih (fun y hy => h y (List.mem_cons_of_mem _ hy))
  rw [e, q _ _ hb, getG, if_pos he]
theorem srtG_put {s : List α} (hs : SrtG key s) (k : ByteArray) {x : Option α} (hx : ∀ y, x = some y → key y = k) : SrtG key (putG key s k x) := by
  unfold putG SrtG
  rw [List.append_assoc, List.pairwise_append, List.pairwise_append]
  have hm : ∀ y ∈ x.toList, key y = k := fun y hy => hx y (by simpa using hy)
  refine ⟨List.Pairwise.filter _ hs, ⟨?_, List.Pairwise.filter _ hs, ?_⟩, ?_⟩
  · rcases x with _ | x <;> simp
  · intro a ha b hb
    rw [hm a ha]
    exact (List.mem_filter.1 hb).2
  · intro a ha b hb
    have ha := (List.mem_filter.1 ha).2
    rcases List.mem_append.1 hb with hb | hb
    · rw [hm b hb]
      exact ha
    · exact ltK_trans ha (List.mem_filter.1 hb).2
theorem memG_put {s : List α} {k : ByteArray} {x : Option α} {y : α} : y ∈ putG key s k x ↔ (y ∈ s ∧ key y ≠ k) ∨ x = some y := by
  unfold putG
  simp only [List.mem_append, List.mem_filter, Option.mem_toList]
  constructor
  · rintro ((⟨h1, h2⟩ | h) | ⟨h1, h2⟩)
    · exact .inl ⟨h1, ltK_ne h2⟩
    · exact .inr h
    · exact .inl ⟨h1, (ltK_ne h2).symm⟩
  · rintro (⟨h1, h2⟩ | h)
    · rcases hb : ltK (key y) k with _ | _
      · rcases hc : ltK k (key y) with _ | _
        · exact absurd (ltK_tri hb hc) h2
        · exact .inr ⟨h1, rfl⟩
      · exact .inl (.inl ⟨h1, rfl⟩)
    · exact .inl (.inr h)
theorem getG_put {s : List α} (hs : SrtG key s) (k : ByteArray) {x : Option α} (hx : ∀ y, x = some y → key y = k) (k' : ByteArray) : getG key (putG key s k x) k' = if k' = k then x else getG key s k' := by
  have hp := srtG_put hs k hx
  split
  · rename_i h
    subst h
    rcases x with _ | x
    · apply getG_not
      intro y hy
      rcases memG_put.1 hy with ⟨_, h⟩ | h
      · exact h
      · cases h
    · have := getG_mem hp (memG_put.2 (.inr rfl))
      rwa [hx x rfl] at this
  · rename_i h
    rcases getG_or (key := key) s k' with ⟨e, n⟩ | ⟨y, hy, rfl, e⟩
    · rw [e]
      apply getG_not
      intro y hy
      rcases memG_put.1 hy with ⟨hy, _⟩ | rfl
      · exact n y hy
      · rw [hx y rfl]; exact fun e => h e.symm
    · rw [e]
      exact getG_mem hp (memG_put.2 (.inl ⟨hy, h⟩))
theorem putG_len (s : List α) (k : ByteArray) (x : Option α) : (putG key s k x).length ≤ s.length + 1 := by
  have h : ∀ t : List α, (t.filter (fun x => ltK (key x) k)).length + (t.filter (fun x => ltK k (key x))).length ≤ t.length := by
    intro t
    induction t with
    | nil => simp
    | cons a r ih =>
      rcases h1 : ltK (key a) k with _ | _
      · rcases h2 : ltK k (key a) with _ | _ <;> simp [h1, h2] <;> omega
      · have h2 := ltK_asym h1
        simp [h1, h2]
        omega
  have := h s
  unfold putG
  simp only [List.length_append]
  rcases x with _ | x <;> simp <;> omega
/-- Sets are told by their keys' rows. -/
theorem setG_ext : ∀ {s t : List α}, SrtG key s → SrtG key t → (∀ k, getG key s k = getG key t k) → s = t
  | [], [], _, _, _ => rfl
  | [], y :: t, _, _, e => by
    have := e (key y)
    simp [getG] at this
  | x :: s, [], _, _, e => by
    have := e (key x)
    simp [getG] at this
  | x :: s, y :: t, hs, ht, e => by
    obtain ⟨s1, s2⟩ := List.pairwise_cons.1 hs
    obtain ⟨t1, t2⟩ := List.pairwise_cons.1 ht
    have no : ∀ (z : α) (v : List α), (∀ q ∈ v, ltK (key z) (key q) = true) → getG key v (key z) = none := fun z v hv => getG_not (fun q hq => (ltK_ne (hv q hq)).symm)
    have ek : key x = key y := by
      apply ltK_tri
      · rcases hb : ltK (key x) (key y) with _ | _
        · rfl
        · have := e (key x)
          simp only [getG, if_true, if_neg (ltK_ne hb).symm] at this
          rw [no x t (fun q hq => ltK_trans hb (t1 q hq))] at this
          cases this
      · rcases hb : ltK (key y) (key x) with _ | _
        · rfl
        · have := e (key y)
          simp only [getG, if_true, if_neg (ltK_ne hb).symm] at this
          rw [no y s (fun q hq => ltK_trans hb (s1 q hq))] at this
          cases this
    have el : x = y := by
      have := e (key x)
      simpa [getG, ek] using this
    have er : s = t := by
      refine setG_ext s2 t2 (fun q => ?_)
      have := e q
      simp only [getG] at this
      by_cases hq : key x = q
      · subst hq
        rw [no x s s1, ek, no y t t1]
      · rwa [if_neg hq, if_neg (ek ▸ hq)] at this
    rw [er, el]
/-- Put what is there: nothing turns. -/
theorem putG_same {s : List α} (hs : SrtG key s) (k : ByteArray) : putG key s k (getG key s k) = s := by
  have hk : ∀ y, getG key s k = some y → key y = k := fun y h => (getG_some h).2
  refine setG_ext (srtG_put hs k hk) hs (fun q => ?_)
  rw [getG_put hs k hk]
  split
  · rename_i h; rw [h]
  · rfl
theorem srtG_lt {s : List α} (hs : SrtG key s) {i j : Nat} {x y : α} (hi : s[i]? = some x) (hj : s[j]? = some y) (h : i < j) : ltK (key x) (key y) = true := by
  obtain ⟨h1, e1⟩ := List.getElem?_eq_some_iff.1 hi
  obtain ⟨h2, e2⟩ := List.getElem?_eq_some_iff.1 hj
  have := List.pairwise_iff_getElem.1 hs i j h1 h2 h
  rw [e1, e2] at this
  exact this
/-- Where a key stands, or would stand. -/
def PlaceG (key : α → ByteArray) (s : List α) (k : ByteArray) (i : Nat) : Prop := i ≤ s.length ∧ (∀ j x, j < i → s[j]? = some x → ltK (key x) k = true) ∧ ∀ j x, i ≤ j → s[j]? = some x → ltK (key x) k = false
theorem cutG {s : List α} {k : ByteArray} {i : Nat} (h1 : ∀ j x, j < i → s[j]? = some x → ltK (key x) k = true) (h2 : ∀ j x, i ≤ j → s[j]? = some x → ltK (key x) k = false) : s.filter (fun x => ltK (key x) k) = s.take i := by
  conv => lhs; rw [← List.take_append_drop i s]
  rw [List.filter_append, List.filter_eq_self.2, List.filter_eq_nil_iff.2, List.append_nil]
  · intro x hx
    obtain ⟨j, hj⟩ := List.mem_iff_getElem?.1 hx
    rw [List.getElem?_drop] at hj
    rw [h2 (i + j) x (by omega) hj]
    simp
  · intro x hx
    obtain ⟨j, hj⟩ := List.mem_iff_getElem?.1 hx
    rw [List.getElem?_take] at hj
    split at hj
    · exact h1 j x (by assumption) hj
    · cases hj
theorem cutG2 {s : List α} {k : ByteArray} {i : Nat} (h1 : ∀ j x, j < i → s[j]? = some x → ltK k (key x) = false) (h2 : ∀ j x, i ≤ j → s[j]? = some x → ltK k (key x) = true) : s.filter (fun x => ltK k (key x)) = s.drop i := by
  conv => lhs; rw [← List.take_append_drop i s]
  rw [List.filter_append, List.filter_eq_nil_iff.2, List.filter_eq_self.2, List.nil_append]
  · intro x hx
    obtain ⟨j, hj⟩ := List.mem_iff_getElem?.1 hx
    rw [List.getElem?_drop] at hj
    exact h2 (i + j) x (by omega) hj
  · intro x hx
    obtain ⟨j, hj⟩ := List.mem_iff_getElem?.1 hx
    rw [List.getElem?_take] at hj
    split at hj
    · rw [h1 j x (by assumption) hj]
      simp
    · cases hj
theorem placeG_there {s : List α} (hs : SrtG key s) {k : ByteArray} {i : Nat} (h : PlaceG key s k i) {x : α} (hx : s[i]? = some x) (e : key x = k) (p : Option α) : getG key s k = some x ∧ putG key s k p = s.take i ++ p.toList ++ s.drop (i + 1) := by
  refine ⟨e ▸ getG_mem hs (List.mem_of_getElem? hx), ?_⟩
  unfold putG
  rw [cutG h.2.1 h.2.2, cutG2 (i := i + 1)]
  · intro j y hj hy
    rcases Nat.lt_or_ge j i with hji | hji
    · exact ltK_asym (h.2.1 j y hji hy)
    · obtain rfl : j = i := by omega
      rw [hx] at hy
      cases hy
      rw [e, ltK_irr]
  · intro j y hj hy
    rw [← e]
    exact srtG_lt hs hx hy (by omega)
theorem placeG_not {s : List α} (hs : SrtG key s) {k : ByteArray} {i : Nat} (h : PlaceG key s k i) (hx : ∀ x, s[i]? = some x → key x ≠ k) (p : Option α) : getG key s k = none ∧ putG key s k p = s.take i ++ p.toList ++ s.drop i := by
  have up : ∀ j y, i ≤ j → s[j]? = some y → ltK k (key y) = true := by
    intro j y hj hy
    have hi : i < s.length := by have := (List.getElem?_eq_some_iff.1 hy).1; omega
    have h0 : s[i]? = some s[i] := List.getElem?_eq_getElem hi
    have h1 : ltK k (key s[i]) = true := by
      rcases hb : ltK k (key s[i]) with _ | _
      · exact absurd (ltK_tri (h.2.2 i _ (Nat.le_refl _) h0) hb) (hx _ h0)
      · rfl
    rcases Nat.lt_or_ge i j with hij | hij
    · exact ltK_trans h1 (srtG_lt hs h0 hy hij)
    · obtain rfl : i = j := by omega
      rw [h0] at hy
      cases hy
      exact h1
  constructor
  · apply getG_not
    intro x hx'
    obtain ⟨j, hj⟩ := List.mem_iff_getElem?.1 hx'
    rcases Nat.lt_or_ge j i with hji | hji
    · exact ltK_ne (h.2.1 j x hji hj)
    · exact (ltK_ne (up j x hji hj)).symm
  · unfold putG
    rw [cutG h.2.1 h.2.2, cutG2 (i := i) (fun j y hj hy => ltK_asym (h.2.1 j y hj hy)) up]
theorem halveG_lo {s : List α} (hs : SrtG key s) {t : ByteArray} {h : Nat} {x : α} (hx : s[h]? = some x) (hl : ltK (key x) t = true) : ∀ j y, j < h + 1 → s[j]? = some y → ltK (key y) t = true := by
  intro j y hj hy
  rcases Nat.lt_or_ge j h with k | k
  · exact ltK_trans (srtG_lt hs hy hx k) hl
  · obtain rfl : j = h := by omega
    rw [hx] at hy
    cases hy
    exact hl
theorem halveG_hi {s : List α} (hs : SrtG key s) {t : ByteArray} {h : Nat} {x : α} (hx : s[h]? = some x) (hl : ltK (key x) t = false) : ∀ j y, h ≤ j → s[j]? = some y → ltK (key y) t = false := by
  intro j y hj hy
  rcases Nat.lt_or_ge h j with k | k
  · rcases hb : ltK (key y) t with _ | _
    · rfl
    · have := ltK_trans (srtG_lt hs hx hy k) hb
      rw [hl] at this
      cases this
  · obtain rfl : j = h := by omega
    rw [hx] at hy
    cases hy
    exact hl
/-- Is a key at its place? -/
def thereG (key : α → ByteArray) (s : List α) (t : ByteArray) (i : Nat) : Bool := match s[i]? with
  | none => false
  | some x => decide (key x = t)
theorem thereG_no {s : List α} {t : ByteArray} {i : Nat} (h : thereG key s t i = false) : ∀ x, s[i]? = some x → key x ≠ t := fun x hx e => by
  unfold thereG at h
  rw [hx] at h
  simp [e] at h
theorem thereG_yes {s : List α} {t : ByteArray} {i : Nat} (h : thereG key s t i = true) : ∃ x, s[i]? = some x ∧ key x = t := by
  unfold thereG at h
  split at h
  · cases h
  · exact ⟨_, by assumption, by simpa using h⟩
theorem takeG_snoc {l : List α} {k : Nat} {x : α} (h : l[k]? = some x) : l.take (k + 1) = l.take k ++ [x] := by
  obtain ⟨hk, rfl⟩ := List.getElem?_eq_some_iff.1 h
  rw [List.take_succ_eq_append_getElem hk]
/-- Rows that may be, in order: from one to the next. -/
theorem stepG {may : α → Bool} {s : List α} {k : Nat} {x : α} (hx : s[k]? = some x) (h : (s.take k).all may = true ∧ SrtG key (s.take k)) (hd : may x = true) (hp : ∀ j y, k = j + 1 → s[j]? = some y → ltK (key y) (key x) = true) : (s.take (k + 1)).all may = true ∧ SrtG key (s.take (k + 1)) := by
  rw [takeG_snoc hx]
  refine ⟨by simp [h.1, hd], ?_⟩
  have h2 := h.2
  unfold SrtG at *
  rw [List.pairwise_append]
  refine ⟨h2, List.pairwise_singleton _ _, fun z hz y hy => ?_⟩
  simp at hy
  subst hy
  obtain ⟨i, hi⟩ := List.mem_iff_getElem?.1 hz
  rw [List.getElem?_take] at hi
  split at hi
  · rename_i hik
    obtain ⟨j, rfl⟩ : ∃ j, k = j + 1 := ⟨k - 1, by omega⟩
    have hjl : j < s.length := by have := (List.getElem?_eq_some_iff.1 hx).1; omega
    have hj : s[j]? = some s[j] := List.getElem?_eq_getElem hjl
    have h3 := hp j _ rfl hj
    rcases Nat.lt_or_ge i j with hij | hij
    · have hil : i < s.length := by omega
      have := List.pairwise_iff_getElem.1 h2 i j (by rw [List.length_take]; omega) (by rw [List.length_take]; omega) hij
      rw [List.getElem_take, List.getElem_take] at this
      rw [List.getElem?_eq_getElem hil] at hi
      cases hi
      exact ltK_trans this h3
    · obtain rfl : i = j := by omega
      rw [hj] at hi
      cases hi
      exact h3
  · cases hi
theorem stepGS {may : α → Bool} {s : List α} {j : Nat} {c x : α} (hx : s[j + 1]? = some x) (hc : s[j]? = some c) (h : (s.take (j + 1)).all may = true ∧ SrtG key (s.take (j + 1))) (hd : may x = true) (hl : ltK (key c) (key x) = true) : (s.take (j + 1 + 1)).all may = true ∧ SrtG key (s.take (j + 1 + 1)) := by
  refine stepG hx h hd (fun i e hi he => ?_)
  obtain rfl : i = j := by omega
  rw [hc] at he
  cases he
  exact hl
/-- Which sets of rows may be. -/
def mayG (key : α → ByteArray) (may : α → Bool) (s : List α) : Bool := s.all may && risG key s && decide (s.length ≤ 4000)
theorem mayG_iff {may : α → Bool} {s : List α} : mayG key may s = true ↔ (∀ x ∈ s, may x = true) ∧ SrtG key s ∧ s.length ≤ 4000 := by
  simp [mayG, risG_iff, and_assoc]
theorem mayG_no {may : α → Bool} {s : List α} {k : Nat} {x : α} (hx : s[k]? = some x) (h : may x = false) : mayG key may s = false := by
  rcases hb : mayG key may s with _ | _
  · rfl
  · have := (mayG_iff.1 hb).1 x (List.mem_of_getElem? hx)
    rw [h] at this
    cases this
theorem mayG_less {may : α → Bool} {s : List α} {j : Nat} {c d : α} (hc : s[j]? = some c) (hd : s[j + 1]? = some d) (h : ltK (key c) (key d) = false) : mayG key may s = false := by
  rcases hb : mayG key may s with _ | _
  · rfl
  · have := srtG_lt (mayG_iff.1 hb).2.1 hc hd (by omega)
    rw [h] at this
    cases this
theorem mayG_put {may : α → Bool} {s : List α} (hs : mayG key may s = true) (k : ByteArray) {x : Option α} (hx : ∀ y, x = some y → key y = k ∧ may y = true) (hn : s.length < 4000) : mayG key may (putG key s k x) = true := by
  obtain ⟨q1, q2, q3⟩ := mayG_iff.1 hs
  refine mayG_iff.2 ⟨fun y hy => ?_, srtG_put q2 k (fun y h => (hx y h).1), by have := putG_len (key := key) s k x; omega⟩
  rcases memG_put.1 hy with ⟨h, _⟩ | h
  · exact q1 y h
  · exact (hx y h).2
/-- How the document puts: what is left, what is out, whether it is done. -/
def goG (key : α → ByteArray) (t : ByteArray) (x : α) : List α → List α → Bool → List α
  | [], out, d => if d then out else out ++ [x]
  | y :: r, out, d => goG key t x r (if key y = t then (if !d && !ltK (key y) t then out ++ [x] else out) else (if !d && !ltK (key y) t then out ++ [x] else out) ++ [y]) (d || !ltK (key y) t)
theorem ne_partsG {s : List α} (hs : SrtG key s) (t : ByteArray) : s.filter (fun x => decide (key x ≠ t)) = s.filter (fun x => ltK (key x) t) ++ s.filter (fun x => ltK t (key x)) := by
  induction s with
  | nil => rfl
  | cons a r ih =>
    obtain ⟨h1, h2⟩ := List.pairwise_cons.1 hs
    have ih := ih h2
    rcases hb : ltK (key a) t with _ | _
    · have no : r.filter (fun y => ltK (key y) t) = [] := by
        rw [List.filter_eq_nil_iff]
        intro y hy h
        have := ltK_trans (h1 y hy) h
        rw [hb] at this
        cases this
      rw [no, List.nil_append] at ih
      rcases hc : ltK t (key a) with _ | _
      · have e := ltK_tri hb hc
        simp [e, no, ltK_irr]
        simpa using ih
      · have e : key a ≠ t := (ltK_ne hc).symm
        simp [e, hb, hc, no]
        simpa using ih
    · have e : key a ≠ t := ltK_ne hb
      have hc := ltK_asym hb
      simp [e, hb, hc]
      simpa using ih
theorem goG_done (t : ByteArray) (x : α) : ∀ (s out : List α), goG key t x s out true = out ++ s.filter (fun y => decide (key y ≠ t))
  | [], out => by simp [goG]
  | y :: r, out => by
    rw [goG]
    simp only [Bool.not_true, Bool.false_and, Bool.false_eq_true, if_false, Bool.true_or]
    rw [goG_done t x r]
    by_cases h : key y = t
    · simp [h]
    · simp [h]
theorem goG_not (t : ByteArray) (x : α) : ∀ (s out : List α), SrtG key s → goG key t x s out false = out ++ s.filter (fun y => ltK (key y) t) ++ [x] ++ s.filter (fun y => ltK t (key y))
  | [], out, _ => by simp [goG]
  | y :: r, out, hs => by
    obtain ⟨h1, h2⟩ := List.pairwise_cons.1 hs
    rw [goG]
    rcases hb : ltK (key y) t with _ | _
    · have no : r.filter (fun y => ltK (key y) t) = [] := by
        rw [List.filter_eq_nil_iff]
        intro z hz h
        have := ltK_trans (h1 z hz) h
        rw [hb] at this
        cases this
      simp only [Bool.not_false, Bool.true_and, if_true, Bool.or_true]
      rw [goG_done, ne_partsG h2, no]
      rcases hc : ltK t (key y) with _ | _
      · have e := ltK_tri hb hc
        simp [e, no, ltK_irr]
      · have e : key y ≠ t := (ltK_ne hc).symm
        simp [e, hb, hc, no]
    · have e : key y ≠ t := ltK_ne hb
      have hc := ltK_asym hb
      simp only [Bool.not_true, Bool.and_false, Bool.false_eq_true, if_false, if_neg e, Bool.or_false]
      rw [goG_not t x r _ h2]
      simp [hb, hc]
/-- What the document puts, of a row, or of none. -/
theorem goG_some {s : List α} (hs : SrtG key s) (t : ByteArray) (x : α) : goG key t x s [] false = putG key s t (some x) := by
  rw [goG_not t x s [] hs]
  simp [putG]
theorem goG_none {s : List α} (hs : SrtG key s) (t : ByteArray) (x : α) : goG key t x s [] true = putG key s t none := by
  rw [goG_done t x s [], ne_partsG hs]
  simp [putG]
end
end Go.Proofs.YtadmibfnjhockaaDoor
