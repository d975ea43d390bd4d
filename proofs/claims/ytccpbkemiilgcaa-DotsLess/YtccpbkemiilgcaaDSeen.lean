/- What a Seen may be, in plain mathematics. -/
import Derived.Test.YtccpbkemiilgcaaDMath
import Derived.Test.YtccpbkemiilgcaaCSet
namespace Go.Proofs.Ytccpbkemiilgcaa

def okAt (c : List Int) (m : List Dot) (i : Nat) : Bool :=
  (mayD (m.getD i (0, 0)) && decide ((m.getD i (0, 0)).2 > getZ c (m.getD i (0, 0)).1 + 1)) && (decide (i = 0) || lessD (m.getD (i - 1) (0, 0)) (m.getD i (0, 0)))
def plainC (c : List Int) : Bool := mayC c && decide (pln (vec c) = c)
def seenB (c : List Int) (m : List Dot) : Bool := plainC c && decide (m.length ≤ 1000) && (List.range m.length).all (okAt c m)
def okFrom (c : List Int) (m : List Dot) (k : Nat) : Prop := ∀ i, k ≤ i → i < m.length → okAt c m i = true
def hasB (c : List Int) (m : List Dot) (d : Dot) : Bool := mayD d && (decide (d.2 ≤ getZ c d.1) || decide (d ∈ m))

theorem okFrom_step {c : List Int} {m : List Dot} {k : Nat} (h : k < m.length) : okFrom c m k ↔ okAt c m k = true ∧ okFrom c m (k + 1) := by
  constructor
  · exact fun q => ⟨q k (Nat.le_refl _) h, fun i hi hl => q i (by omega) hl⟩
  · rintro ⟨q, q'⟩ i hi hl
    by_cases e : i = k
    · subst e; exact q
    · exact q' i (by omega) hl
theorem okFrom_end {c : List Int} {m : List Dot} {k : Nat} (h : m.length ≤ k) : okFrom c m k := fun i hi hl => by omega
theorem seenB_iff {c : List Int} {m : List Dot} : seenB c m = true ↔ plainC c = true ∧ m.length ≤ 1000 ∧ okFrom c m 0 := by
  unfold seenB okFrom
  simp [and_assoc]
theorem pln_zeros (l : List Int) (k : Nat) : pln (l ++ List.replicate k 0) = pln l := by
  induction k with
  | zero => simp
  | succ k ih => rw [List.replicate_succ', ← List.append_assoc, pln_zero, ih]
theorem vec_pad {c : List Int} (h : mayC c = true) : vec c = c ++ List.replicate (5 - c.length) 0 := by
  have h5 := (mayC_iff.1 h).1
  unfold vec at5
  simp only [if_pos h]
  match c, h5 with
  | [], _ => rfl
  | [_], _ => rfl
  | [_, _], _ => rfl
  | [_, _, _], _ => rfl
  | [_, _, _, _], _ => rfl
  | [_, _, _, _, _], _ => rfl
  | _ :: _ :: _ :: _ :: _ :: _ :: _, h5 => simp at h5
theorem plain_len {c : List Int} (h : mayC c = true) : (pln (vec c)).length = c.length ↔ pln (vec c) = c := by
  rw [vec_pad h, pln_zeros]
  constructor
  · intro e
    unfold pln at *
    exact List.take_of_length_le (by rw [List.length_take] at e; omega)
  · exact fun e => by rw [e]
theorem plainC_as {c : List Int} (h : mayC c = true) : plainC c = decide ((pln (vec c)).length = c.length) := by
  unfold plainC
  rw [h, Bool.true_and]
  exact decide_eq_decide.2 (plain_len h).symm
theorem numX_getZ (c : List Int) {d : Dot} (h : mayD d = true) : numX (vec c) d = getZ c d.1 := by
  rw [mayD_iff] at h
  unfold numX getZ
  rw [if_pos ⟨h.1, h.2.1⟩, vec_getD c _ (by omega)]
  congr 1
  omega
theorem vec_bdX (c : List Int) : BdX (vec c) := ⟨vec_len c, vec_bd c⟩
theorem srt_of_next : ∀ {l : List Dot}, (∀ i, i + 1 < l.length → lessD (l.getD i (0, 0)) (l.getD (i + 1) (0, 0)) = true) → SrtD l
  | [], _ => List.Pairwise.nil
  | [x], _ => by simp [SrtD]
  | x :: y :: r, h => by
    have ih := srt_of_next (l := y :: r) (fun i hi => by simpa using h (i + 1) (by simp at hi ⊢; omega))
    have h0 : lessD x y = true := by simpa using h 0 (by simp)
    refine List.pairwise_cons.2 ⟨fun a ha => ?_, ih⟩
    rcases List.mem_cons.1 ha with rfl | ha
    · exact h0
    · exact lessD_trans h0 ((List.pairwise_cons.1 ih).1 a ha)
theorem getDot_mem {l : List Dot} {i : Nat} (h : i < l.length) : l.getD i (0, 0) ∈ l := by
  have : l.getD i (0, 0) = l[i] := by simp [List.getD_eq_getElem?_getD, h]
  rw [this]; exact List.getElem_mem h
theorem mem_getD {l : List Dot} {x : Dot} (h : x ∈ l) : ∃ i, i < l.length ∧ l.getD i (0, 0) = x := by
  obtain ⟨i, hi, rfl⟩ := List.getElem_of_mem h
  exact ⟨i, hi, by simp [List.getD_eq_getElem?_getD, hi]⟩
theorem srt_lt {l : List Dot} (h : SrtD l) {i j : Nat} (hij : i < j) (hj : j < l.length) : lessD (l.getD i (0, 0)) (l.getD j (0, 0)) = true := by
  have := List.pairwise_iff_getElem.1 h i j (by omega) hj hij
  simpa [List.getD_eq_getElem?_getD, hj, show i < l.length by omega] using this
theorem seen_good {c : List Int} {m : List Dot} (h : seenB c m = true) : GoodX (vec c, m) ∧ pln (vec c) = c ∧ mayC c = true ∧ m.length ≤ 1000 := by
  obtain ⟨h1, h2, h3⟩ := seenB_iff.1 h
  unfold plainC at h1
  simp only [Bool.and_eq_true, decide_eq_true_eq] at h1
  have hA : ∀ i, i < m.length → mayD (m.getD i (0, 0)) = true ∧ getZ c (m.getD i (0, 0)).1 + 1 < (m.getD i (0, 0)).2 ∧ (i = 0 ∨ lessD (m.getD (i - 1) (0, 0)) (m.getD i (0, 0)) = true) := fun i hi => by
    have := h3 i (by omega) hi
    unfold okAt at this
    simp only [Bool.and_eq_true, Bool.or_eq_true, decide_eq_true_eq] at this
    exact ⟨this.1.1, this.1.2, this.2⟩
  refine ⟨⟨vec_bdX c, srt_of_next fun i hi => ?_, fun x hx => ?_⟩, h1.2, h1.1, h2⟩
  · rcases (hA (i + 1) hi).2.2 with q | q
    · omega
    · simpa using q
  · obtain ⟨i, hi, rfl⟩ := mem_getD hx
    have := hA i hi
    exact ⟨this.1, by rw [numX_getZ c this.1]; exact this.2.1⟩
theorem good_seen {X : List Int} {m : List Dot} (h : GoodX (X, m)) (hl : m.length ≤ 1000) : seenB (pln X) m = true := by
  have e : vec (pln X) = X := vec_pln X h.1.1 h.1.2
  rw [seenB_iff]
  refine ⟨?_, hl, fun i _ hi => ?_⟩
  · unfold plainC
    rw [mayC_pln X (by have : X.length = 5 := h.1.1; omega) h.1.2, e]
    simp
  · have hx := h.2.2 _ (getDot_mem hi)
    have hz := numX_getZ (pln X) hx.1
    rw [e] at hz
    unfold okAt
    rw [hx.1]
    simp only [Bool.true_and, Bool.and_eq_true, Bool.or_eq_true, decide_eq_true_eq]
    refine ⟨by rw [← hz]; exact hx.2, ?_⟩
    rcases Nat.eq_zero_or_pos i with q | q
    · exact .inl q
    · exact .inr (srt_lt h.2.1 (by omega) hi)
theorem hasB_iff {c : List Int} {m : List Dot} {d : Dot} : hasB c m d = true ↔ mayD d = true ∧ hasX (vec c, m) d := by
  unfold hasB
  simp only [Bool.and_eq_true, Bool.or_eq_true, decide_eq_true_eq]
  constructor
  · rintro ⟨h, q⟩
    refine ⟨h, ?_⟩
    unfold hasX
    rw [numX_getZ c h]
    exact q
  · rintro ⟨h, q⟩
    refine ⟨h, ?_⟩
    unfold hasX at q
    rw [numX_getZ c h] at q
    exact q
theorem found_iff {l : List Dot} (h : SrtD l) {d : Dot} {i : Nat} (h1 : ∀ t, t < i → lessD (l.getD t (0, 0)) d = true) (h2 : ∀ t, i ≤ t → t < l.length → lessD (l.getD t (0, 0)) d = false) :
    d ∈ l ↔ (i < l.length ∧ cmpD (l.getD i (0, 0)) d = 0) := by
  rw [cmpD_eq]
  constructor
  · intro hd
    obtain ⟨t, ht, e⟩ := mem_getD hd
    have h3 : i ≤ t := Nat.not_lt.1 fun q => by have := h1 t q; rw [e, lessD_irr] at this; cases this
    have h4 : ¬ i < t := fun q => by have := srt_lt h q ht; rw [e, h2 i (Nat.le_refl _) (by omega)] at this; cases this
    have h5 : i = t := by omega
    subst h5
    exact ⟨ht, e⟩
  · rintro ⟨hi, e⟩
    rw [← e]; exact getDot_mem hi
end Go.Proofs.Ytccpbkemiilgcaa
