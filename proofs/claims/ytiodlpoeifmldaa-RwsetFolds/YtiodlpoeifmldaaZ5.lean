/- Which sets of layer 9 may be; cleaned and plain as the document puts them; what drops leave. -/
import Derived.Test.YtiodlpoeifmldaaZ1
namespace Go.Proofs.Ytiodlpoeifmldaa
set_option linter.unusedVariables false
def mayN9 (x : En) : Bool := mayK x.1 && decide (x.2 ≠ ([], [])) && rowsB x.2.1 && rowsB x.2.2
def mayS9 (s : List En) : Bool := s.all mayN9 && risB s && decide (s.length ≤ 4000)
theorem mayN9_iff {x : En} : mayN9 x = true ↔ mayK x.1 = true ∧ x.2 ≠ ([], []) ∧ rowsB x.2.1 = true ∧ rowsB x.2.2 = true := by
  unfold mayN9
  rw [Bool.and_eq_true, Bool.and_eq_true, Bool.and_eq_true, decide_eq_true_iff]
  exact ⟨fun h => ⟨h.1.1.1, h.1.1.2, h.1.2, h.2⟩, fun h => ⟨⟨⟨h.1, h.2.1⟩, h.2.2.1⟩, h.2.2.2⟩⟩
theorem mayS9_iff {s : List En} : mayS9 s = true ↔ (∀ x ∈ s, mayN9 x = true) ∧ SrtK s ∧ s.length ≤ 4000 := by
  simp [mayS9, risB_iff, and_assoc]
theorem rows9_get {s : List En} (hs : mayS9 s = true) (k : ByteArray) : rowsB (getP s k).1 = true ∧ rowsB (getP s k).2 = true := by
  rcases getP_or s k with ⟨e, _⟩ | ⟨x, hx, _, e⟩
  · rw [e]; exact ⟨by decide, by decide⟩
  · rw [e]; exact (mayN9_iff.1 ((mayS9_iff.1 hs).1 x hx)).2.2
theorem mayS9_put {s : List En} (hs : mayS9 s = true) {k : ByteArray} (hk : mayK k = true) {p : Pr} (h1 : rowsB p.1 = true) (h2 : rowsB p.2 = true) (hn : s.length < 4000) : mayS9 (putP s k p) = true := by
  obtain ⟨q1, q2, q3⟩ := mayS9_iff.1 hs
  refine mayS9_iff.2 ⟨fun x hx => ?_, srtP_put q2 k p, by have := putP_len s k p; omega⟩
  rcases memP_put.1 hx with ⟨h, _⟩ | ⟨h, rfl⟩
  · exact q1 x h
  · exact mayN9_iff.2 ⟨hk, h, h1, h2⟩
theorem mayS9_drop {s : List En} (hs : mayS9 s = true) {k : ByteArray} (hk : mayK k = true) {d : Dot} (hd : mayD d = true) (c : List Int) (hn : s.length < 4000) : mayS9 (dropP s k d c) = true :=
  mayS9_put hs hk (show rowsB [] = true by decide) (rowsB_putD (rowsB_left (rows9_get hs k).2 c) hd) hn
theorem mayS9_add {s : List En} (hs : mayS9 s = true) {k : ByteArray} (hk : mayK k = true) {d : Dot} (hd : mayD d = true) (c : List Int) (hn : s.length < 4000) : mayS9 (addP s k d c) = true := by
  unfold addP
  split
  · exact mayS9_put hs hk (rowsB_putD (rowsB_left (rows9_get hs k).1 c) hd) (rows9_get hs k).2 hn
  · exact hs
theorem mayS9_clean {s : List En} (hs : mayS9 s = true) (c : List Int) : mayS9 (mapP (cleanF c) s) = true := by
  obtain ⟨q1, q2, q3⟩ := mayS9_iff.1 hs
  refine mayS9_iff.2 ⟨fun x hx => ?_, srt_map q2, ?_⟩
  · obtain ⟨y, hy, rfl, hn⟩ := mem_map9.1 hx
    have q := mayN9_iff.1 (q1 y hy)
    exact mayN9_iff.2 ⟨q.1, hn, q.2.2.1, rowsB_left q.2.2.2 c⟩
  · unfold mapP
    refine Nat.le_trans (List.length_filter_le _ _) ?_
    rw [List.length_map]
    exact q3
theorem cp_of_may {s : List En} (hs : mayS9 s = true) : Cp s := by
  obtain ⟨q1, q2, q3⟩ := mayS9_iff.1 hs
  refine ⟨q2, fun x hx => (mayN9_iff.1 (q1 x hx)).2.1, fun k => ?_⟩
  exact ⟨(rowsB_iff.1 (rows9_get hs k).1).2, (rowsB_iff.1 (rows9_get hs k).2).2⟩
/-! Bounds -/
theorem few9_get {s : List En} {m : Nat} (h : ∀ x ∈ s, x.2.1.length ≤ m ∧ x.2.2.length ≤ m) (k : ByteArray) : (getP s k).1.length ≤ m ∧ (getP s k).2.length ≤ m := by
  rcases getP_or s k with ⟨e, _⟩ | ⟨x, hx, _, e⟩
  · rw [e]; exact ⟨Nat.zero_le _, Nat.zero_le _⟩
  · rw [e]; exact h x hx
theorem few9_put {s : List En} {m : Nat} (h : ∀ x ∈ s, x.2.1.length ≤ m ∧ x.2.2.length ≤ m) {k : ByteArray} {p : Pr} (h1 : p.1.length ≤ m + 1) (h2 : p.2.length ≤ m + 1) : ∀ x ∈ putP s k p, x.2.1.length ≤ m + 1 ∧ x.2.2.length ≤ m + 1 := by
  intro x hx
  rcases memP_put.1 hx with ⟨q, _⟩ | ⟨_, rfl⟩
  · exact ⟨Nat.le_succ_of_le (h x q).1, Nat.le_succ_of_le (h x q).2⟩
  · exact ⟨h1, h2⟩
theorem left_len (l : List Dot) (c : List Int) : (leftD l c).length ≤ l.length := List.length_filter_le _ _
theorem few9_drop {s : List En} {m : Nat} (h : ∀ x ∈ s, x.2.1.length ≤ m ∧ x.2.2.length ≤ m) (k : ByteArray) (d : Dot) (c : List Int) : ∀ x ∈ dropP s k d c, x.2.1.length ≤ m + 1 ∧ x.2.2.length ≤ m + 1 := by
  refine few9_put h (Nat.zero_le _) (Nat.le_trans putD_len ?_)
  have := left_len (getP s k).2 c
  have := (few9_get h k).2
  omega
theorem few9_add {s : List En} {m : Nat} (h : ∀ x ∈ s, x.2.1.length ≤ m ∧ x.2.2.length ≤ m) (k : ByteArray) (d : Dot) (c : List Int) : ∀ x ∈ addP s k d c, x.2.1.length ≤ m + 1 ∧ x.2.2.length ≤ m + 1 := by
  unfold addP
  split
  · refine few9_put h (Nat.le_trans putD_len ?_) ?_
    · have := left_len (getP s k).1 c
      have := (few9_get h k).1
      omega
    · have := (few9_get h k).2
      simp only
      omega
  · exact fun x hx => ⟨Nat.le_succ_of_le (h x hx).1, Nat.le_succ_of_le (h x hx).2⟩
/-! As the document puts them, one entry behind the other -/
theorem putP_last {s : List En} {x : En} {p : Pr} (h : ∀ y ∈ s, ltK y.1 x.1 = true) : putP s x.1 p = s ++ (if p = ([], []) then [] else [(x.1, p)]) := by
  unfold putP
  rw [List.filter_eq_self.2 h, List.filter_eq_nil_iff.2, List.append_nil]
  intro y hy q
  rw [ltK_asym (h y hy)] at q
  cases q
theorem mapP_snoc (f : Pr → Pr) (s : List En) (x : En) : mapP f (s ++ [x]) = mapP f s ++ (if f x.2 = ([], []) then [] else [(x.1, f x.2)]) := by
  unfold mapP
  rw [List.map_append, List.filter_append]
  by_cases h : f x.2 = ([], [])
  · simp [h]
  · simp [h]
/-- Each entry put behind those ahead of it: the document's Clean and Plain. -/
theorem map_step {f : Pr → Pr} {s : List En} (hs : SrtK s) {i : Nat} {x : En} (hx : s[i]? = some x) : mapP f (s.take (i + 1)) = putP (mapP f (s.take i)) x.1 (f x.2) := by
  rw [take_snocL hx, mapP_snoc, putP_last]
  intro y hy
  obtain ⟨z, hz, rfl, _⟩ := mem_map9.1 hy
  obtain ⟨j, hj⟩ := List.mem_iff_getElem?.1 hz
  rw [List.getElem?_take] at hj
  split at hj
  · exact (show ltK z.1 x.1 = true from srt_lt hs hj hx (by assumption))
  · cases hj
/-! What drops leave -/
theorem drop9_get {s : List En} (hs : SrtK s) (k : ByteArray) (d : Dot) (c : List Int) : getP (dropP s k d c) k = ([], putD (leftD (getP s k).2 c) d) := by unfold dropP; rw [getP_put hs, if_pos rfl]
theorem add9_none {s : List En} (hs : SrtK s) (k : ByteArray) (d : Dot) (c : List Int) (e : Dot) (ce : List Int) (h : getZ ce d.1 < d.2) : addP (dropP s k d c) k e ce = dropP s k d c := by
  unfold addP
  rw [drop9_get hs, if_neg]
  intro q
  have : d ∈ leftD (putD (leftD (getP s k).2 c) d) ce := mem_left.2 ⟨mem_putD.2 (.inl rfl), h⟩
  rw [q] at this
  cases this
theorem add9_all {s : List En} (hs : mayS9 s = true) {k : ByteArray} {d : Dot} (hd : mayD d = true) (c : List Int) (e : Dot) : (getP (addP (dropP s k d c) k e allC) k).1 ≠ [] := by
  have h := (mayS9_iff.1 hs).2.1
  have hr : rowsB (putD (leftD (getP s k).2 c) d) = true := rowsB_putD (rowsB_left (rows9_get hs k).2 c) hd
  have hS : SrtK (dropP s k d c) := by unfold dropP; exact srtP_put h _ _
  unfold addP
  rw [drop9_get h, if_pos (left_all hr), getP_put hS, if_pos rfl]
  exact putD_ne _ _
end Go.Proofs.Ytiodlpoeifmldaa
