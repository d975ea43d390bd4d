/- A line's tokens with what stands behind them say what they say alone (layer 15), in plain mathematics. -/
import Derived.Test.YtadmibfnjhockaaDoorM2
namespace Go.Proofs.YtadmibfnjhockaaDoor
set_option linter.unusedVariables false
theorem isU_at {l : List Tk} {i : Nat} {t : Tk} (h : l[i]? = some t) (k : Int) : isU l i k = decide (t.1 = k) := by unfold isU; rw [h]
theorem isU_far {l : List Tk} {i : Nat} (h : l.length ≤ i) (k : Int) : isU l i k = false := by unfold isU; rw [List.getElem?_eq_none h]
theorem txtU_at {l : List Tk} {i : Nat} {t : Tk} (h : l[i]? = some t) : txtU l i = if t.1 = 1 then t.2.1 else ⟨#[]⟩ := by unfold txtU; rw [h]
theorem txtU_far {l : List Tk} {i : Nat} (h : isU l i 1 = false) : txtU l i = ⟨#[]⟩ := by
  unfold isU at h
  unfold txtU
  cases hx : l[i]? with
  | none => rfl
  | some t =>
    rw [hx] at h
    simp only [decide_eq_false_iff_not] at h
    simp only
    rw [if_neg h]
theorem namU_is {l : List Tk} {i : Nat} : namU l i = (isU l i 1 && !keptB (txtU l i)) := by
  unfold namU isU txtU
  cases l[i]? with
  | none => rfl
  | some t =>
    simp only
    by_cases h : t.1 = 1
    · rw [if_pos h]
    · rw [decide_eq_false h]; rfl
/-- U: the line; l: with what stands behind it. -/
def Agr (l U : List Tk) : Prop := (∀ i, i < U.length → l[i]? = U[i]?) ∧ ∀ k : Int, 1 ≤ k → k ≤ 4 → isU l U.length k = false
theorem agr_take : ∀ {l : List Tk}, (∃ t, t ∈ l ∧ inU t = false) → Agr l (l.takeWhile inU) ∧ ∃ t, l[(l.takeWhile inU).length]? = some t ∧ inU t = false
  | [], h => by
    obtain ⟨t, ht, _⟩ := h
    cases ht
  | t :: r, h => by
    by_cases hi : inU t = true
    · have hr : ∃ x, x ∈ r ∧ inU x = false := by
        obtain ⟨x, hx, hf⟩ := h
        rcases List.mem_cons.1 hx with rfl | hx
        · rw [hi] at hf; cases hf
        · exact ⟨x, hx, hf⟩
      obtain ⟨⟨h1, h2⟩, h3⟩ := agr_take hr
      rw [List.takeWhile_cons, if_pos hi]
      refine ⟨⟨fun i hl => ?_, fun k k1 k4 => ?_⟩, ?_⟩
      · rcases i with _ | i
        · rfl
        · rw [List.getElem?_cons_succ, List.getElem?_cons_succ]
          exact h1 i (by simpa using hl)
      · have q := h2 k k1 k4
        unfold isU at q ⊢
        rw [List.length_cons, List.getElem?_cons_succ]
        exact q
      · rw [List.length_cons, List.getElem?_cons_succ]
        exact h3
    · rw [List.takeWhile_cons, if_neg hi]
      have hf : inU t = false := by simpa using hi
      refine ⟨⟨fun i hl => absurd hl (by simp), fun k k1 k4 => ?_⟩, t, rfl, hf⟩
      rw [isU_at (show (t :: r)[([] : List Tk).length]? = some t from rfl)]
      unfold inU at hf
      rw [decide_eq_false_iff_not] at hf
      rw [decide_eq_false_iff_not]
      omega
section
variable {l U : List Tk}
theorem Agr.is (h : Agr l U) {i : Nat} (hi : i ≤ U.length) {k : Int} (k1 : 1 ≤ k) (k4 : k ≤ 4) : isU l i k = isU U i k := by
  by_cases hl : i < U.length
  · unfold isU
    rw [h.1 i hl]
  · obtain rfl : i = U.length := by omega
    rw [h.2 k k1 k4, isU_far (Nat.le_refl _)]
theorem Agr.txt (h : Agr l U) {i : Nat} (hi : i ≤ U.length) : txtU l i = txtU U i := by
  by_cases hl : i < U.length
  · unfold txtU
    rw [h.1 i hl]
  · obtain rfl : i = U.length := by omega
    rw [txtU_far (h.2 1 (by decide) (by decide)), txtU_far (isU_far (Nat.le_refl _) 1)]
theorem Agr.nam (h : Agr l U) {i : Nat} (hi : i ≤ U.length) : namU l i = namU U i := by
  rw [namU_is, namU_is, h.is hi (by decide) (by decide), h.txt hi]
theorem Agr.num (h : Agr l U) {i : Nat} (hi : i < U.length) : numU l i = numU U i := by
  unfold numU
  rw [h.1 i hi]
theorem isU_lt {i : Nat} {k : Int} (h : isU U i k = true) : i < U.length := by
  by_cases hl : i < U.length
  · exact hl
  · rw [isU_far (by omega)] at h; cases h
theorem namU_lt {i : Nat} (h : namU U i = true) : i < U.length := by
  rw [namU_is, Bool.and_eq_true] at h
  exact isU_lt h.1
theorem txtU_lt {i : Nat} (h : txtU U i ≠ ⟨#[]⟩) : i < U.length := by
  rcases hi : isU U i 1 with _ | _
  · exact absurd (txtU_far hi) h
  · exact isU_lt hi
theorem Agr.frm (h : Agr l U) : ∀ (cs : List Int) (i : Nat), i ≤ U.length → frmU l i cs = frmU U i cs ∧ i + frmU U i cs ≤ U.length ∧ frmU U i cs ≤ cs.length
  | [], i, hi => ⟨rfl, hi, Nat.le_refl _⟩
  | c :: cs, i, hi => by
    rw [frmU, frmU]
    have e : (if c = 110 then namU l i else isU l i 2) = (if c = 110 then namU U i else isU U i 2) := by
      rw [h.nam hi, h.is hi (by decide) (by decide)]
    rw [e]
    by_cases ht : (if c = 110 then namU U i else isU U i 2) = true
    · have hl : i < U.length := by
        by_cases hc : c = 110
        · rw [if_pos hc] at ht; exact namU_lt ht
        · rw [if_neg hc] at ht; exact isU_lt ht
      obtain ⟨q1, q2, q3⟩ := h.frm cs (i + 1) hl
      rw [if_pos ht, if_pos ht, q1]
      refine ⟨rfl, by omega, ?_⟩
      rw [List.length_cons]
      omega
    · rw [if_neg ht, if_neg ht]
      exact ⟨rfl, hi, by omega⟩
theorem deedU_some {s : ByteArray} (h : (deedU s).1 ≠ 0) : s ≠ ⟨#[]⟩ ∧ ((deedU s).2.length = 1 ∨ (deedU s).2.length = 2) := by
  refine ⟨fun e => ?_, ?_⟩
  · subst e
    exact h (by decide)
  · revert h
    unfold deedU
    repeat' split
    all_goals (intro h; simp at h ⊢)
theorem ruleU_some {s : ByteArray} (h : (ruleU s).1 ≠ 0) : s ≠ ⟨#[]⟩ ∧ (ruleU s).2.length = 2 := by
  refine ⟨fun e => ?_, ?_⟩
  · subst e
    exact h (by decide)
  · revert h
    unfold ruleU
    repeat' split
    all_goals (intro h; simp at h ⊢)
theorem Agr.op (h : Agr l U) : ∀ (f i : Nat) (ds : List Dd), i < U.length → opU l f i ds = opU U f i ds ∧ (opU U f i ds).2.1 ≤ U.length
  | 0, i, ds, hi => ⟨rfl, Nat.le_of_lt hi⟩
  | f + 1, i, ds, hi => by
    simp only [opU]
    rw [h.txt (i := i + 1) hi]
    by_cases h0 : (deedU (txtU U (i + 1))).1 = 0
    · rw [if_pos h0, if_pos h0]
      exact ⟨rfl, hi⟩
    · obtain ⟨s1, s2⟩ := deedU_some h0
      have hi1 := txtU_lt s1
      obtain ⟨q1, q2, q3⟩ := h.frm (deedU (txtU U (i + 1))).2 (i + 2) hi1
      rw [if_neg h0, if_neg h0, q1]
      by_cases hk : frmU U (i + 2) (deedU (txtU U (i + 1))).2 < (deedU (txtU U (i + 1))).2.length
      · rw [if_pos hk, if_pos hk]
        exact ⟨rfl, q2⟩
      · rw [if_neg hk, if_neg hk]
        have hn : (if (deedU (txtU U (i + 1))).2.length = 2 then numU l (i + 3) else 0) = (if (deedU (txtU U (i + 1))).2.length = 2 then numU U (i + 3) else 0) := by
          by_cases h2 : (deedU (txtU U (i + 1))).2.length = 2
          · rw [if_pos h2, if_pos h2, h.num (by omega)]
          · rw [if_neg h2, if_neg h2]
        rw [h.txt (i := i + 2) hi1, hn, h.is q2 (by decide) (by decide)]
        generalize ds ++ [((deedU (txtU U (i + 1))).1, txtU U (i + 2), if (deedU (txtU U (i + 1))).2.length = 2 then numU U (i + 3) else 0)] = ds2
        by_cases he : isU U (i + 2 + frmU U (i + 2) (deedU (txtU U (i + 1))).2) 4 = false ∨ ds2.length = 16
        · rw [if_pos he, if_pos he]
          exact ⟨rfl, q2⟩
        · rw [if_neg he, if_neg he]
          exact h.op f _ ds2 (isU_lt (by
            rcases hx : isU U (i + 2 + frmU U (i + 2) (deedU (txtU U (i + 1))).2) 4 with _ | _
            · exact absurd (.inl hx) he
            · rfl))
theorem Agr.dcl (h : Agr l U) : dclU l = dclU U ∧ (dclU U).2.1 ≤ U.length := by
  unfold dclU
  simp only
  rw [h.txt (i := 0) (Nat.zero_le _)]
  by_cases h1 : txtU U 0 = ⟨#[115, 101, 116]⟩ ∨ txtU U 0 = ⟨#[99, 111, 117, 110, 116]⟩ ∨ txtU U 0 = ⟨#[110, 111, 116, 101]⟩
  · have hl : 0 < U.length := txtU_lt (by rcases h1 with e | e | e <;> (rw [e]; decide))
    rw [if_pos h1, if_pos h1, h.nam (i := 1) hl]
    by_cases hn : namU U 1 = true
    · rw [if_pos hn, if_pos hn, h.txt (i := 1) hl]
      exact ⟨rfl, namU_lt hn⟩
    · rw [if_neg hn, if_neg hn]
      exact ⟨rfl, hl⟩
  · rw [if_neg h1, if_neg h1]
    by_cases h2 : txtU U 0 = ⟨#[111, 112]⟩
    · have hl : 0 < U.length := txtU_lt (by rw [h2]; decide)
      rw [if_pos h2, if_pos h2, h.nam (i := 1) hl]
      by_cases hn : namU U 1 = false
      · rw [if_pos hn, if_pos hn]
        exact ⟨rfl, hl⟩
      · have hn1 : 1 < U.length := namU_lt (by simpa using hn)
        rw [if_neg hn, if_neg hn, h.is (i := 2) hn1 (by decide) (by decide), h.txt (i := 1) hl]
        by_cases hc : isU U 2 3 = false
        · rw [if_pos hc, if_pos hc]
          exact ⟨rfl, hn1⟩
        · obtain ⟨q1, q2⟩ := h.op 17 2 [] (isU_lt (k := 3) (by simpa using hc))
          rw [if_neg hc, if_neg hc, q1]
          exact ⟨rfl, q2⟩
    · rw [if_neg h2, if_neg h2]
      by_cases h3 : txtU U 0 = ⟨#[114, 117, 108, 101]⟩
      · have hl : 0 < U.length := txtU_lt (by rw [h3]; decide)
        rw [if_pos h3, if_pos h3, h.txt (i := 1) hl]
        have hi : (if decide (txtU U 1 = ⟨#[115, 116, 114, 105, 99, 116]⟩) = true then 2 else 1) ≤ U.length := by
          by_cases hs : txtU U 1 = ⟨#[115, 116, 114, 105, 99, 116]⟩
          · rw [if_pos (by simpa using hs)]
            exact txtU_lt (by rw [hs]; decide)
          · rw [if_neg (by simpa using hs)]
            exact hl
        generalize (if decide (txtU U 1 = ⟨#[115, 116, 114, 105, 99, 116]⟩) = true then 2 else 1) = i at hi
        rw [h.txt hi]
        by_cases h0 : (ruleU (txtU U i)).1 = 0
        · rw [if_pos h0, if_pos h0]
          exact ⟨rfl, hi⟩
        · obtain ⟨s1, s2⟩ := ruleU_some h0
          have hi1 := txtU_lt s1
          obtain ⟨q1, q2, q3⟩ := h.frm (ruleU (txtU U i)).2 (i + 1) hi1
          rw [if_neg h0, if_neg h0, q1]
          by_cases hk : frmU U (i + 1) (ruleU (txtU U i)).2 < 2
          · rw [if_pos hk, if_pos hk]
            exact ⟨rfl, q2⟩
          · rw [if_neg hk, if_neg hk, h.txt (i := i + 1) (by omega), h.txt (i := i + 2) (by omega), h.num (i := i + 2) (by omega)]
            refine ⟨rfl, ?_⟩
            show i + 3 ≤ U.length
            omega
      · rw [if_neg h3, if_neg h3]
        exact ⟨rfl, Nat.zero_le _⟩
end
end Go.Proofs.YtadmibfnjhockaaDoor
