/- Keys in order; sets of keys with their dots: which may be, a key's dots, a set with a key's dots put: in plain mathematics. -/
import Derived.Test.YtiodlpoeifmldaaAB2
import Derived.Lib.Bytealg
namespace Go.Proofs.Ytiodlpoeifmldaa
set_option linter.unusedVariables false

/-! Keys -/
/-- Is a key below another one (by their bytes)? -/
def ltK (a b : ByteArray) : Bool := Op.bytesLess a.toList b.toList
theorem bl_irr : ∀ l : List UInt8, Op.bytesLess l l = false
  | [] => by simp [Op.bytesLess]
  | a :: l => by simp [Op.bytesLess, bl_irr l, UInt8.lt_irrefl]
theorem bl_trans : ∀ {a b c : List UInt8}, Op.bytesLess a b = true → Op.bytesLess b c = true → Op.bytesLess a c = true
  | _, [], _, h, _ => by simp [Op.bytesLess] at h
  | _, _ :: _, [], _, h => by simp [Op.bytesLess] at h
  | [], _ :: _, _ :: _, _, _ => by simp [Op.bytesLess]
  | x :: a, y :: b, z :: c, h, k => by
    simp only [Op.bytesLess, Bool.or_eq_true, decide_eq_true_eq, Bool.and_eq_true, beq_iff_eq] at h k ⊢
    rcases h with h | ⟨rfl, h⟩
    · rcases k with k | ⟨rfl, k⟩
      · exact .inl (UInt8.lt_trans h k)
      · exact .inl h
    · rcases k with k | ⟨rfl, k⟩
      · exact .inl k
      · exact .inr ⟨rfl, bl_trans h k⟩
theorem bl_tri : ∀ (a b : List UInt8), Op.bytesLess a b = false → Op.bytesLess b a = false → a = b
  | [], [], _, _ => rfl
  | [], _ :: _, h, _ => by simp [Op.bytesLess] at h
  | _ :: _, [], _, h => by simp [Op.bytesLess] at h
  | x :: a, y :: b, h, k => by
    simp only [Op.bytesLess, Bool.or_eq_false_iff, decide_eq_false_iff_not, Bool.and_eq_false_iff] at h k
    have e : x = y := UInt8.le_antisymm (UInt8.not_lt.1 k.1) (UInt8.not_lt.1 h.1)
    subst e
    rw [bl_tri a b (by simpa using h.2) (by simpa using k.2)]
theorem toL_inj {a b : ByteArray} (h : a.toList = b.toList) : a = b := by
  rw [ByteArray.toList_eq, ByteArray.toList_eq] at h
  obtain ⟨⟨x⟩⟩ := a
  obtain ⟨⟨y⟩⟩ := b
  simpa using h
theorem eqK (a b : ByteArray) : (a.toList == b.toList) = decide (a = b) := by
  rw [Bool.eq_iff_iff, beq_iff_eq, decide_eq_true_iff]
  exact ⟨toL_inj, fun h => by rw [h]⟩
theorem ltK_irr (a : ByteArray) : ltK a a = false := bl_irr _
theorem ltK_trans {a b c : ByteArray} (h : ltK a b = true) (k : ltK b c = true) : ltK a c = true := bl_trans h k
theorem ltK_tri {a b : ByteArray} (h : ltK a b = false) (k : ltK b a = false) : a = b := toL_inj (bl_tri _ _ h k)
theorem ltK_ne {a b : ByteArray} (h : ltK a b = true) : a ≠ b := by
  rintro rfl
  rw [ltK_irr] at h
  cases h
theorem ltK_asym {a b : ByteArray} (h : ltK a b = true) : ltK b a = false := by
  rcases hb : ltK b a with _ | _
  · rfl
  · have := ltK_trans h hb
    rw [ltK_irr] at this
    cases this
/-- What 'strings.Compare' tells. -/
def cmpK (a b : ByteArray) : Int := if a = b then 0 else if ltK a b = true then -1 else 1
theorem cmpB : ∀ (a b : List UInt8), Lib.compareBytes a b = if a = b then 0 else if Op.bytesLess a b = true then -1 else 1
  | [], [] => by simp [Lib.compareBytes]
  | [], _ :: _ => by simp [Lib.compareBytes, Op.bytesLess]
  | _ :: _, [] => by simp [Lib.compareBytes, Op.bytesLess]
  | x :: a, y :: b => by
    unfold Lib.compareBytes
    rw [cmpB a b]
    by_cases h : x < y
    · have : x ≠ y := fun e => by subst e; exact UInt8.lt_irrefl _ h
      simp [h, Op.bytesLess, this]
    · by_cases k : y < x
      · have : x ≠ y := fun e => by subst e; exact UInt8.lt_irrefl _ k
        simp [h, k, Op.bytesLess, this]
      · have e : x = y := UInt8.le_antisymm (UInt8.not_lt.1 k) (UInt8.not_lt.1 h)
        subst e
        simp [Op.bytesLess, UInt8.lt_irrefl]
theorem cmpK_is (a b : ByteArray) : Lib.compareBytes a.data.toList b.data.toList = cmpK a b := by
  rw [cmpB, cmpK, ltK, ByteArray.toList_eq, ByteArray.toList_eq]
  have : a.data.toList = b.data.toList ↔ a = b := ⟨fun h => toL_inj (by rw [ByteArray.toList_eq, ByteArray.toList_eq]; exact h), fun h => by rw [h]⟩
  simp only [this]
theorem cmpK_lt (a b : ByteArray) : (cmpK a b < 0) ↔ ltK a b = true := by
  unfold cmpK
  split
  · rename_i h; subst h; simp [ltK_irr]
  · split <;> simp_all
theorem cmpK_eq (a b : ByteArray) : (cmpK a b = 0) ↔ a = b := by
  unfold cmpK
  split
  · simp_all
  · split <;> simp_all
def mayK (k : ByteArray) : Bool := decide (1 ≤ k.size ∧ k.size ≤ 32)

/-! Sets -/
/-- An entry: Key, Live, Dead. -/
abbrev En := ByteArray × List Dot × List Dot
/-- Dots that may be, in order, each once. -/
def rowsB (l : List Dot) : Bool := l.all mayD && decide (ordD l = l)
def mayN (x : En) : Bool := mayK x.1 && decide (x.2.1 ≠ []) && decide (x.2.2 = []) && rowsB x.2.1
/-- Keys rise. -/
def SrtK (s : List En) : Prop := s.Pairwise (fun a b => ltK a.1 b.1 = true)
/-- Keys rise from one to the next. -/
def risB : List En → Bool
  | [] => true
  | [_] => true
  | a :: b :: r => ltK a.1 b.1 && risB (b :: r)
def mayS (s : List En) : Bool := s.all mayN && risB s && decide (s.length ≤ 4000)
/-- A key's Live. -/
def getS : List En → ByteArray → List Dot
  | [], _ => []
  | x :: r, k => if x.1 = k then x.2.1 else getS r k
/-- A set with a key's Live, in order; with none it is left out. -/
def putS (s : List En) (k : ByteArray) (l : List Dot) : List En :=
  s.filter (fun x => ltK x.1 k) ++ (if l = [] then [] else [(k, l, [])]) ++ s.filter (fun x => ltK k x.1)
/-- The dots that a clock has not. -/
def leftD (l : List Dot) (c : List Int) : List Dot := l.filter (fun d => decide (getZ c d.1 < d.2))
def addS (s : List En) (k : ByteArray) (d : Dot) (c : List Int) : List En := putS s k (putD (leftD (getS s k) c) d)
def dropS (s : List En) (k : ByteArray) (c : List Int) : List En := putS s k (leftD (getS s k) c)

theorem ordD_self {l : List Dot} : ordD l = l ↔ SrtD l := ⟨fun h => h ▸ ordD_srt l, fun h => (ordD_is h (fun _ => Iff.rfl)).symm⟩
theorem rowsB_iff {l : List Dot} : rowsB l = true ↔ (∀ d ∈ l, mayD d = true) ∧ SrtD l := by
  simp [rowsB, ordD_self]
theorem mayN_iff {x : En} : mayN x = true ↔ mayK x.1 = true ∧ x.2.1 ≠ [] ∧ x.2.2 = [] ∧ rowsB x.2.1 = true := by
  simp [mayN, and_assoc]
theorem risB_iff : ∀ {s : List En}, risB s = true ↔ SrtK s
  | [] => by simp [risB, SrtK]
  | [a] => by simp [risB, SrtK]
  | a :: b :: r => by
    have ih := @risB_iff (b :: r)
    simp only [risB, Bool.and_eq_true, ih, SrtK, List.pairwise_cons]
    constructor
    · rintro ⟨h, k⟩
      refine ⟨fun x hx => ?_, k⟩
      rcases List.mem_cons.1 hx with rfl | hx
      · exact h
      · exact ltK_trans h (k.1 x hx)
    · rintro ⟨h, k⟩
      exact ⟨h b List.mem_cons_self, k⟩
theorem mayS_iff {s : List En} : mayS s = true ↔ (∀ x ∈ s, mayN x = true) ∧ SrtK s ∧ s.length ≤ 4000 := by
  simp [mayS, risB_iff, and_assoc]
theorem getS_mem {s : List En} (hs : SrtK s) {x : En} (hx : x ∈ s) : getS s x.1 = x.2.1 := by
  induction s with
  | nil => cases hx
  | cons a r ih =>
    obtain ⟨h1, h2⟩ := List.pairwise_cons.1 hs
    rcases List.mem_cons.1 hx with rfl | hx
    · simp [getS]
    · have : a.1 ≠ x.1 := ltK_ne (h1 x hx)
      simp only [getS, if_neg this]
      exact ih h2 hx
theorem getS_not {s : List En} {k : ByteArray} (h : ∀ x ∈ s, x.1 ≠ k) : getS s k = [] := by
  induction s with
  | nil => rfl
  | cons a r ih =>
    rw [getS, if_neg (h a List.mem_cons_self)]
    exact ih (fun x hx => h x (List.mem_cons_of_mem _ hx))
theorem getS_or (s : List En) (k : ByteArray) : (getS s k = [] ∧ ∀ x ∈ s, x.1 ≠ k) ∨ ∃ x ∈ s, x.1 = k ∧ getS s k = x.2.1 := by
  induction s with
  | nil => exact .inl ⟨rfl, fun x hx => by cases hx⟩
  | cons a r ih =>
    by_cases h : a.1 = k
    · exact .inr ⟨a, List.mem_cons_self, h, by simp [getS, h]⟩
    · rcases ih with ⟨h1, h2⟩ | ⟨x, h1, h2, h3⟩
      · refine .inl ⟨by simp [getS, h, h1], fun x hx => ?_⟩
        rcases List.mem_cons.1 hx with rfl | hx
        · exact h
        · exact h2 x hx
      · exact .inr ⟨x, List.mem_cons_of_mem _ h1, h2, by simp [getS, h, h3]⟩
theorem srtK_put {s : List En} (hs : SrtK s) (k : ByteArray) (l : List Dot) : SrtK (putS s k l) := by
  unfold putS SrtK
  rw [List.append_assoc, List.pairwise_append, List.pairwise_append]
  refine ⟨List.Pairwise.filter _ hs, ⟨?_, List.Pairwise.filter _ hs, ?_⟩, ?_⟩
  · split <;> simp
  · intro a ha b hb
    split at ha
    · cases ha
    · simp only [List.mem_singleton] at ha
      subst ha
      exact (List.mem_filter.1 hb).2
  · intro a ha b hb
    have ha := (List.mem_filter.1 ha).2
    rcases List.mem_append.1 hb with hb | hb
    · split at hb
      · cases hb
      · simp only [List.mem_singleton] at hb
        subst hb
        exact ha
    · exact ltK_trans ha (List.mem_filter.1 hb).2
theorem mem_put {s : List En} {k : ByteArray} {l : List Dot} {x : En} : x ∈ putS s k l ↔ (x ∈ s ∧ x.1 ≠ k) ∨ (l ≠ [] ∧ x = (k, l, [])) := by
  unfold putS
  simp only [List.mem_append, List.mem_filter]
  constructor
  · rintro ((⟨h1, h2⟩ | h) | ⟨h1, h2⟩)
    · exact .inl ⟨h1, ltK_ne h2⟩
    · split at h
      · cases h
      · exact .inr ⟨by assumption, by simpa using h⟩
    · exact .inl ⟨h1, (ltK_ne h2).symm⟩
  · rintro (⟨h1, h2⟩ | ⟨h1, rfl⟩)
    · rcases hb : ltK x.1 k with _ | _
      · rcases hc : ltK k x.1 with _ | _
        · exact absurd (ltK_tri hb hc) h2
        · exact .inr ⟨h1, rfl⟩
      · exact .inl (.inl ⟨h1, rfl⟩)
    · exact .inl (.inr (by simp [h1]))
theorem getS_put {s : List En} (hs : SrtK s) (k : ByteArray) (l : List Dot) (k' : ByteArray) : getS (putS s k l) k' = if k' = k then l else getS s k' := by
  have hp := srtK_put hs k l
  split
  · rename_i h
    subst h
    by_cases hl : l = []
    · rw [getS_not, hl]
      intro x hx
      rcases mem_put.1 hx with ⟨_, h⟩ | ⟨h, _⟩
      · exact h
      · exact absurd hl h
    · exact getS_mem hp (x := (k', l, [])) (mem_put.2 (.inr ⟨hl, rfl⟩))
  · rename_i h
    rcases getS_or s k' with ⟨e, n⟩ | ⟨x, hx, rfl, e⟩
    · rw [e, getS_not]
      intro x hx
      rcases mem_put.1 hx with ⟨hx, _⟩ | ⟨_, rfl⟩
      · exact n x hx
      · exact fun e => h e.symm
    · rw [e]
      exact getS_mem hp (mem_put.2 (.inl ⟨hx, h⟩))
theorem put_len (s : List En) (k : ByteArray) (l : List Dot) : (putS s k l).length ≤ s.length + 1 := by
  have h : ∀ t : List En, (t.filter (fun x => ltK x.1 k)).length + (t.filter (fun x => ltK k x.1)).length ≤ t.length := by
    intro t
    induction t with
    | nil => simp
    | cons a r ih =>
      rcases h1 : ltK a.1 k with _ | _
      · rcases h2 : ltK k a.1 with _ | _ <;> simp [h1, h2] <;> omega
      · have h2 := ltK_asym h1
        simp [h1, h2]
        omega
  have := h s
  unfold putS
  simp only [List.length_append]
  split <;> simp <;> omega
theorem mayN_put {s : List En} (hs : ∀ x ∈ s, mayN x = true) {k : ByteArray} (hk : mayK k = true) {l : List Dot} (hl : rowsB l = true) : ∀ x ∈ putS s k l, mayN x = true := by
  intro x hx
  rcases mem_put.1 hx with ⟨h, _⟩ | ⟨h, rfl⟩
  · exact hs x h
  · exact mayN_iff.2 ⟨hk, h, rfl, hl⟩
theorem mayS_put {s : List En} (hs : mayS s = true) {k : ByteArray} (hk : mayK k = true) {l : List Dot} (hl : rowsB l = true) (hn : s.length < 4000) : mayS (putS s k l) = true := by
  obtain ⟨h1, h2, h3⟩ := mayS_iff.1 hs
  exact mayS_iff.2 ⟨mayN_put h1 hk hl, srtK_put h2 k l, by have := put_len s k l; omega⟩
theorem rowsB_get {s : List En} (hs : mayS s = true) (k : ByteArray) : rowsB (getS s k) = true := by
  rcases getS_or s k with ⟨e, _⟩ | ⟨x, hx, _, e⟩
  · rw [e]; decide
  · rw [e]; exact (mayN_iff.1 ((mayS_iff.1 hs).1 x hx)).2.2.2
theorem rowsB_left {l : List Dot} (h : rowsB l = true) (c : List Int) : rowsB (leftD l c) = true := by
  obtain ⟨h1, h2⟩ := rowsB_iff.1 h
  exact rowsB_iff.2 ⟨fun d hd => h1 d (List.mem_filter.1 hd).1, List.Pairwise.filter _ h2⟩
theorem rowsB_putD {l : List Dot} (h : rowsB l = true) {d : Dot} (hd : mayD d = true) : rowsB (putD l d) = true := by
  obtain ⟨h1, h2⟩ := rowsB_iff.1 h
  refine rowsB_iff.2 ⟨fun x hx => ?_, srt_putD h2⟩
  rcases mem_putD.1 hx with rfl | hx
  · exact hd
  · exact h1 x hx
theorem ordD_snoc {l : List Dot} (h : SrtD l) (d : Dot) : ordD (l ++ [d]) = putD l d :=
  (ordD_is (srt_putD h) (fun x => by rw [mem_putD, List.mem_append, List.mem_singleton, or_comm])).symm
theorem putD_ne (l : List Dot) (d : Dot) : putD l d ≠ [] := by
  intro h
  have : d ∈ putD l d := mem_putD.2 (.inl rfl)
  rw [h] at this
  cases this
theorem mayS_add {s : List En} (hs : mayS s = true) {k : ByteArray} (hk : mayK k = true) {d : Dot} (hd : mayD d = true) (c : List Int) (hn : s.length < 4000) : mayS (addS s k d c) = true :=
  mayS_put hs hk (rowsB_putD (rowsB_left (rowsB_get hs k) c) hd) hn
theorem mayS_drop {s : List En} (hs : mayS s = true) {k : ByteArray} (hk : mayK k = true) (c : List Int) (hn : s.length < 4000) : mayS (dropS s k c) = true :=
  mayS_put hs hk (rowsB_left (rowsB_get hs k) c) hn
/-- A set is told by its keys' Live. -/
theorem set_ext : ∀ {s t : List En}, SrtK s → SrtK t → (∀ x ∈ s, x.2.1 ≠ [] ∧ x.2.2 = []) → (∀ x ∈ t, x.2.1 ≠ [] ∧ x.2.2 = []) → (∀ k, getS s k = getS t k) → s = t
  | [], [], _, _, _, _, _ => rfl
  | [], y :: t, _, _, _, h, e => by
    have := e y.1
    simp only [getS, if_true] at this
    exact absurd this.symm (h y List.mem_cons_self).1
  | x :: s, [], _, _, h, _, e => by
    have := e x.1
    simp only [getS, if_true] at this
    exact absurd this (h x List.mem_cons_self).1
  | x :: s, y :: t, hs, ht, h, k, e => by
    obtain ⟨s1, s2⟩ := List.pairwise_cons.1 hs
    obtain ⟨t1, t2⟩ := List.pairwise_cons.1 ht
    have no : ∀ {z : En} {u v : List En} , (∀ q ∈ v, ltK z.1 q.1 = true) → getS v z.1 = [] := fun hv => getS_not (fun q hq => (ltK_ne (hv q hq)).symm)
    have ek : x.1 = y.1 := by
      apply ltK_tri
      · rcases hb : ltK x.1 y.1 with _ | _
        · rfl
        · have := e x.1
          simp only [getS, if_true, if_neg (ltK_ne hb).symm] at this
          rw [@no x [] t (fun q hq => ltK_trans hb (t1 q hq))] at this
          exact absurd this (h x List.mem_cons_self).1
      · rcases hb : ltK y.1 x.1 with _ | _
        · rfl
        · have := e y.1
          simp only [getS, if_true, if_neg (ltK_ne hb).symm] at this
          rw [@no y [] s (fun q hq => ltK_trans hb (s1 q hq))] at this
          exact absurd this.symm (k y List.mem_cons_self).1
    have el : x.2.1 = y.2.1 := by
      have := e x.1
      simpa [getS, ek] using this
    have er : s = t := by
      refine set_ext s2 t2 (fun z hz => h z (List.mem_cons_of_mem _ hz)) (fun z hz => k z (List.mem_cons_of_mem _ hz)) (fun q => ?_)
      have := e q
      simp only [getS] at this
      by_cases hq : x.1 = q
      · subst hq
        rw [@no x [] s s1]
        rw [ek]
        exact (@no y [] t t1).symm
      · rwa [if_neg hq, if_neg (ek ▸ hq)] at this
    obtain ⟨x1, x2, x3⟩ := x
    obtain ⟨y1, y2, y3⟩ := y
    simp only at ek el
    have h1 := (h _ List.mem_cons_self).2
    have h2 := (k _ List.mem_cons_self).2
    simp only at h1 h2
    rw [ek, el, h1, h2, er]
/-- In order, what is below a key is a beginning, what is above an end. -/
theorem srt_cut {s : List En} (hs : SrtK s) {k : ByteArray} {i : Nat} (h1 : ∀ j x, j < i → s[j]? = some x → ltK x.1 k = true) (h2 : ∀ j x, i ≤ j → s[j]? = some x → ltK x.1 k = false) : s.filter (fun x => ltK x.1 k) = s.take i := by
  conv => lhs; rw [← List.take_append_drop i s]
  rw [List.filter_append, List.filter_eq_self.2, List.filter_eq_nil_iff.2, List.append_nil]
  · intro x hx
    obtain ⟨j, hj⟩ := List.mem_iff_getElem?.1 hx
    rw [List.getElem?_drop] at hj
    rw [h2 (i + j) x (by omega) hj]
    simp
  · intro x hx
    obtain ⟨j, hj⟩ := List.mem_iff_getElem?.1 hx
    rw [List.getElem?_take] at hj
    split at hj
    · exact h1 j x (by assumption) hj
    · cases hj
theorem srt_cut2 {s : List En} (hs : SrtK s) {k : ByteArray} {i : Nat} (h1 : ∀ j x, j < i → s[j]? = some x → ltK k x.1 = false) (h2 : ∀ j x, i ≤ j → s[j]? = some x → ltK k x.1 = true) : s.filter (fun x => ltK k x.1) = s.drop i := by
  conv => lhs; rw [← List.take_append_drop i s]
  rw [List.filter_append, List.filter_eq_nil_iff.2, List.filter_eq_self.2, List.nil_append]
  · intro x hx
    obtain ⟨j, hj⟩ := List.mem_iff_getElem?.1 hx
    rw [List.getElem?_drop] at hj
    exact h2 (i + j) x (by omega) hj
  · intro x hx
    obtain ⟨j, hj⟩ := List.mem_iff_getElem?.1 hx
    rw [List.getElem?_take] at hj
    split at hj
    · rw [h1 j x (by assumption) hj]
      simp
    · cases hj
/-- Where a key stands, or would stand. -/
def PlaceK (s : List En) (k : ByteArray) (i : Nat) : Prop := i ≤ s.length ∧ (∀ j x, j < i → s[j]? = some x → ltK x.1 k = true) ∧ ∀ j x, i ≤ j → s[j]? = some x → ltK x.1 k = false
theorem srt_lt {s : List En} (hs : SrtK s) {i j : Nat} {x y : En} (hi : s[i]? = some x) (hj : s[j]? = some y) (h : i < j) : ltK x.1 y.1 = true := by
  obtain ⟨h1, e1⟩ := List.getElem?_eq_some_iff.1 hi
  obtain ⟨h2, e2⟩ := List.getElem?_eq_some_iff.1 hj
  have := List.pairwise_iff_getElem.1 hs i j h1 h2 h
  rw [e1, e2] at this
  exact this
theorem place_there {s : List En} (hs : SrtK s) {k : ByteArray} {i : Nat} (h : PlaceK s k i) {x : En} (hx : s[i]? = some x) (e : x.1 = k) (l : List Dot) : getS s k = x.2.1 ∧ putS s k l = s.take i ++ (if l = [] then [] else [(k, l, [])]) ++ s.drop (i + 1) := by
  refine ⟨e ▸ getS_mem hs (List.mem_of_getElem? hx), ?_⟩
  unfold putS
  rw [srt_cut hs h.2.1 h.2.2, srt_cut2 hs (i := i + 1)]
  · intro j y hj hy
    rcases Nat.lt_or_ge j i with hji | hji
    · exact ltK_asym (h.2.1 j y hji hy)
    · obtain rfl : j = i := by omega
      rw [hx] at hy
      cases hy
      rw [e, ltK_irr]
  · intro j y hj hy
    rw [← e]
    exact srt_lt hs hx hy (by omega)
theorem place_not {s : List En} (hs : SrtK s) {k : ByteArray} {i : Nat} (h : PlaceK s k i) (hx : ∀ x, s[i]? = some x → x.1 ≠ k) (l : List Dot) : getS s k = [] ∧ putS s k l = s.take i ++ (if l = [] then [] else [(k, l, [])]) ++ s.drop i := by
  have up : ∀ j y, i ≤ j → s[j]? = some y → ltK k y.1 = true := by
    intro j y hj hy
    have hi : i < s.length := by have := (List.getElem?_eq_some_iff.1 hy).1; omega
    have h0 : s[i]? = some s[i] := List.getElem?_eq_getElem hi
    have h1 : ltK k s[i].1 = true := by
      rcases hb : ltK k s[i].1 with _ | _
      · exact absurd (ltK_tri (h.2.2 i _ (Nat.le_refl _) h0) hb) (hx _ h0)
      · rfl
    rcases Nat.lt_or_ge i j with hij | hij
    · exact ltK_trans h1 (srt_lt hs h0 hy hij)
    · obtain rfl : i = j := by omega
      rw [h0] at hy
      cases hy
      exact h1
  constructor
  · apply getS_not
    intro x hx'
    obtain ⟨j, hj⟩ := List.mem_iff_getElem?.1 hx'
    rcases Nat.lt_or_ge j i with hji | hji
    · exact ltK_ne (h.2.1 j x hji hj)
    · exact (ltK_ne (up j x hji hj)).symm
  · unfold putS
    rw [srt_cut hs h.2.1 h.2.2, srt_cut2 hs (i := i) (fun j y hj hy => ltK_asym (h.2.1 j y hj hy)) up]
end Go.Proofs.Ytiodlpoeifmldaa
