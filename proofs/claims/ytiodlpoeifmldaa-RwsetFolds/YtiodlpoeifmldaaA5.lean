/- The dots that a clock has not (layer 8). -/
import Derived.Test.YtiodlpoeifmldaaA4
namespace Go.Proofs.Ytiodlpoeifmldaa
open Go.RowKit Go.Lib
set_option linter.unusedVariables false
/-- The clock that the closure knows: a box. -/
def CK (w : World) (h : Nat) (c : List Int) : Prop := ∃ pa na ca, BX w h #[.slice pa na ca] 26 ∧ NS w pa na c
theorem CK.below {w w' : World} {h : Nat} {c : List Int} (k : CK w h c) (hb : Below w.heap.size w w') : CK w' h c := by
  obtain ⟨pa, na, ca, k1, k2⟩ := k
  exact ⟨pa, na, ca, k1.below hb, k2.below hb⟩
/-- Has the clock a dot? -/
def knw (c : List Int) (d : Dot) : Bool := decide (d.2 ≤ getZ c d.1)
/-- Where the first dot is that a clock has. -/
def IdxP (c : List Int) (l : List Dot) (n : Nat) (z : Int) : Prop := (z = -1 ∧ ∀ d ∈ l, knw c d = false) ∨ ∃ (k : Nat) (d : Dot), z = k ∧ k < n ∧ l[k]? = some d ∧ knw c d = true ∧ ∀ x ∈ l.take k, knw c x = false
theorem leftD_is (l : List Dot) (c : List Int) : leftD l c = l.filter (fun d => !knw c d) := by
  unfold leftD
  congr 1
  funext d
  rw [Bool.eq_iff_iff]
  simp [knw]
/-! Rows of dots written in place -/
theorem OwnD.bx {N : Nat} {w : World} {g n cap : Nat} {l : List Dot} (h : OwnD N w (.slice (some ⟨g, 0, none⟩) n cap) l) : ∃ C, l.length = n ∧ N ≤ g ∧ BX w g C 24 ∧ n ≤ cap ∧ cap ≤ maxLen ∧ C.size = cap * 2 ∧ C.toList.take (n * 2) = flatD l := by
  obtain ⟨h1, h2⟩ := h
  rcases h2 with ⟨h2, _⟩ | ⟨g', cap', cur, h2, k1, k2, k3, k4, k5, k6⟩
  · cases h2
  · simp only [Value.slice.injEq, Option.some.injEq, Addr.mk.injEq, and_true] at h2
    obtain ⟨rfl, hn, rfl⟩ := h2
    exact ⟨cur, hn.symm, k1, k2, by omega, k4, k5, by rw [hn]; exact k6⟩
theorem OwnD.of {N : Nat} {w : World} {g n cap : Nat} {l : List Dot} {C : Array Value} (h0 : l.length = n) (h1 : N ≤ g) (h2 : BX w g C 24) (h3 : n ≤ cap) (h4 : cap ≤ maxLen) (h5 : C.size = cap * 2) (h6 : C.toList.take (n * 2) = flatD l) : OwnD N w (.slice (some ⟨g, 0, none⟩) n cap) l := by
  subst h0
  exact ⟨flatD_len l, .inr ⟨g, cap, C, rfl, h1, h2, h3, h4, h5, h6⟩⟩
theorem flatD_set (l : List Dot) (k : Nat) (r s : Int) (hk : k < l.length) : flatD (l.set k (r, s)) = ((flatD l).set (k * 2) (.int .i64 r)).set (k * 2 + 1) (.int .i64 s) := by
  apply List.ext_getElem?
  intro j
  by_cases hj : j < l.length * 2
  · obtain ⟨i, hi, hjj⟩ : ∃ i, i < l.length ∧ (j = i * 2 ∨ j = i * 2 + 1) := ⟨j / 2, by omega, by omega⟩
    have q := flatD_get l i hi
    have q2 := flatD_get (l.set k (r, s)) i (by simpa using hi)
    by_cases e : i = k
    · subst e
      have e2 : (l.set i (r, s)).getD i (0, 0) = (r, s) := by simp [List.getD_eq_getElem?_getD, hi]
      rw [e2] at q2
      rcases hjj with rfl | rfl
      · rw [q2.1, List.getElem?_set_ne (by omega), List.getElem?_set_self (by rw [flatD_len]; omega)]
      · rw [q2.2, List.getElem?_set_self (by rw [List.length_set, flatD_len]; omega)]
    · have e2 : (l.set k (r, s)).getD i (0, 0) = l.getD i (0, 0) := by simp [List.getD_eq_getElem?_getD, Ne.symm e]
      rw [e2] at q2
      rcases hjj with rfl | rfl
      · rw [q2.1, List.getElem?_set_ne (by omega), List.getElem?_set_ne (by omega), q.1]
      · rw [q2.2, List.getElem?_set_ne (by omega), List.getElem?_set_ne (by omega), q.2]
  · rw [List.getElem?_eq_none (by rw [flatD_len, List.length_set]; omega), List.getElem?_eq_none (by simp only [List.length_set, flatD_len]; omega)]
theorem flatD_take (l : List Dot) (k : Nat) (hk : k ≤ l.length) : flatD (l.take k) = (flatD l).take (k * 2) := by
  have e : flatD l = flatD (l.take k) ++ flatD (l.drop k) := by rw [← flatD_app, List.take_append_drop]
  have e2 : (flatD (l.take k)).length = k * 2 := by rw [flatD_len, List.length_take]; omega
  rw [e, ← e2, List.take_left]
theorem OwnD.setD {N : Nat} {w : World} {g n cap : Nat} {l : List Dot} (h : OwnD N w (.slice (some ⟨g, 0, none⟩) n cap) l) (k : Nat) (hk : k < n) (r s : Int) : OwnD N ((w.setCell ⟨g, k * 2, none⟩ (.int .i64 r)).setCell ⟨g, k * 2 + 1, none⟩ (.int .i64 s)) (.slice (some ⟨g, 0, none⟩) n cap) (l.set k (r, s)) := by
  obtain ⟨C, h0, h1, h2, h3, h4, h5, h6⟩ := h.bx
  refine OwnD.of (by rw [List.length_set, h0]) h1 ((h2.set (k * 2) (.int .i64 r)).set (k * 2 + 1) (.int .i64 s)) h3 h4 (by rw [Array.size_setIfInBounds, Array.size_setIfInBounds, h5]) ?_
  rw [flatD_set l k r s (by rw [h0]; exact hk), ← h6]
  simp only [Array.toList_setIfInBounds, List.take_set]
theorem BX.clear {g : Nat} {t : TypeId} : ∀ (vs : List Value) (o : Nat) (w : World) (C : Array Value), BX w g C t → ∃ C', BX (w.setCells g o vs) g C' t ∧ C'.size = C.size ∧ ∀ i, i < o → C'[i]? = C[i]?
  | [], _, _, C, h => ⟨C, h, rfl, fun _ _ => rfl⟩
  | v :: r, o, w, C, h => by
    obtain ⟨C', h1, h2, h3⟩ := BX.clear r (o + 1) _ _ (h.set o v)
    refine ⟨C', h1, by rw [h2, Array.size_setIfInBounds], fun i hi => ?_⟩
    rw [h3 i (by omega), Array.getElem?_setIfInBounds_ne (by omega)]
theorem OwnD.clear {N : Nat} {w : World} {g n cap : Nat} {l : List Dot} (h : OwnD N w (.slice (some ⟨g, 0, none⟩) n cap) l) (k : Nat) (hk : k ≤ n) (vs : List Value) : OwnD N (w.setCells g (k * 2) vs) (.slice (some ⟨g, 0, none⟩) k cap) (l.take k) := by
  obtain ⟨C, h0, h1, h2, h3, h4, h5, h6⟩ := h.bx
  obtain ⟨C', q1, q2, q3⟩ := BX.clear vs (k * 2) w C h2
  refine OwnD.of (by rw [List.length_take]; omega) h1 q1 (by omega) h4 (by rw [q2, h5]) ?_
  rw [flatD_take l k (by omega), ← h6, List.take_take, Nat.min_eq_left (by omega)]
  apply List.ext_getElem?
  intro i
  rw [List.getElem?_take, List.getElem?_take]
  split
  · rename_i hi
    have := q3 i hi
    simpa using this
  · rfl
theorem OwnD.hd {N : Nat} {w : World} {g n cap : Nat} {l : List Dot} (h : OwnD N w (.slice (some ⟨g, 0, none⟩) n cap) l) : HD w g l.toArray := by
  rcases h.row with ⟨_, h2⟩ | ⟨g', cap', h2, _, _, _, _, h3⟩
  · cases h2
  · simp only [Value.slice.injEq, Option.some.injEq, Addr.mk.injEq, and_true] at h2
    obtain ⟨rfl, _⟩ := h2
    exact h3
/-- What a deletion in place has done so far. -/
structure DelI (f : Dot → Bool) (l : List Dot) (j i : Nat) (d : List Dot) : Prop where
  len : d.length = l.length
  lt : i < j
  le : j ≤ l.length
  low : d.take i = (l.take j).filter f
  high : d.drop j = l.drop j
theorem DelI.cnt {f : Dot → Bool} {l : List Dot} {j i : Nat} {d : List Dot} (h : DelI f l j i d) : ((l.take j).filter f).length = i := by
  rw [← h.low, List.length_take]; have := h.len; have := h.lt; have := h.le; omega
theorem DelI.get {f : Dot → Bool} {l : List Dot} {j i : Nat} {d : List Dot} (h : DelI f l j i d) : d[j]? = l[j]? := by
  have := congrArg (fun x => x[0]?) h.high
  simpa using this
theorem DelI.skip {f : Dot → Bool} {l : List Dot} {j i : Nat} {d : List Dot} (h : DelI f l j i d) {x : Dot} (hx : l[j]? = some x) (hf : f x = false) : DelI f l (j + 1) i d := by
  have hj := (List.getElem?_eq_some_iff.1 hx).1
  refine ⟨h.len, by have := h.lt; omega, by omega, ?_, ?_⟩
  · rw [take_snocL hx, List.filter_append, h.low]; simp [hf]
  · rw [← List.drop_drop, ← List.drop_drop, h.high]
theorem DelI.keep {f : Dot → Bool} {l : List Dot} {j i : Nat} {d : List Dot} (h : DelI f l j i d) {x : Dot} (hx : l[j]? = some x) (hf : f x = true) : DelI f l (j + 1) (i + 1) (d.set i x) := by
  have hj := (List.getElem?_eq_some_iff.1 hx).1
  have hl := h.lt
  have hn := h.len
  refine ⟨by rw [List.length_set, h.len], by omega, by omega, ?_, ?_⟩
  · rw [take_snocL hx, List.filter_append, ← h.low]
    have : (d.set i x)[i]? = some x := List.getElem?_set_self (by omega)
    rw [take_snocL this, List.take_set_of_le (Nat.le_refl _)]
    simp [hf]
  · rw [List.drop_set_of_lt (by omega), ← List.drop_drop, ← List.drop_drop, h.high]
theorem DelI.start {f : Dot → Bool} {l : List Dot} {k : Nat} {x : Dot} (hx : l[k]? = some x) (hf : f x = false) (ha : ∀ y ∈ l.take k, f y = true) : DelI f l (k + 1) k l := by
  have hk := (List.getElem?_eq_some_iff.1 hx).1
  refine ⟨rfl, by omega, by omega, ?_, rfl⟩
  rw [take_snocL hx, List.filter_append, List.filter_eq_self.2 ha]
  simp [hf]
end Go.Proofs.Ytiodlpoeifmldaa
