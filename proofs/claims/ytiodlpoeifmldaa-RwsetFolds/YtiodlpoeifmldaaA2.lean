/- What the program checks of a set (layer 8). -/
import Derived.Test.YtiodlpoeifmldaaA1
import Derived.Deep.RegionWith
import Derived.Deep.CutBlock
import Derived.Deep.CutRange
namespace Go.Proofs.Ytiodlpoeifmldaa
open Go.RowKit Go.Lib
set_option linter.unusedVariables false
theorem wrapN {j : Nat} (h : j ≤ 9223372036854775807) : IntKind.i64.wrap (j : Int) = j := by simp [IntKind.wrap, IntKind.bits, IntKind.signed]; omega
theorem rows_step {l : List Dot} {k : Nat} {d : Dot} (hx : l[k]? = some d) (h : rowsB (l.take k) = true) (hd : mayD d = true) (hp : ∀ j c, k = j + 1 → l[j]? = some c → lessD c d = true) : rowsB (l.take (k + 1)) = true := by
  obtain ⟨h1, h2⟩ := rowsB_iff.1 h
  rw [take_snocL hx]
  refine rowsB_iff.2 ⟨fun x hx' => ?_, ?_⟩
  · rcases List.mem_append.1 hx' with q | q
    · exact h1 x q
    · simp at q; subst q; exact hd
  · unfold SrtD at *
    rw [List.pairwise_append]
    refine ⟨h2, List.pairwise_singleton _ _, fun x hx' y hy => ?_⟩
    simp at hy
    subst hy
    obtain ⟨i, hi⟩ := List.mem_iff_getElem?.1 hx'
    rw [List.getElem?_take] at hi
    split at hi
    · rename_i hik
      obtain ⟨j, rfl⟩ : ∃ j, k = j + 1 := ⟨k - 1, by omega⟩
      have hjl : j < l.length := by have := (List.getElem?_eq_some_iff.1 hx).1; omega
      have hj : l[j]? = some l[j] := List.getElem?_eq_getElem hjl
      have h3 := hp j _ rfl hj
      rcases Nat.lt_or_ge i j with hij | hij
      · have h4 : lessD x l[j] = true := by
          have hil : i < l.length := by omega
          have := List.pairwise_iff_getElem.1 h2 i j (by rw [List.length_take]; omega) (by rw [List.length_take]; omega) hij
          rw [List.getElem_take, List.getElem_take] at this
          rw [List.getElem?_eq_getElem hil] at hi
          cases hi
          exact this
        exact lessD_trans h4 h3
      · obtain rfl : i = j := by omega
        rw [hj] at hi
        cases hi
        exact h3
    · cases hi
theorem rows_stepS {l : List Dot} {j : Nat} {c d : Dot} (hx : l[j + 1]? = some d) (hc : l[j]? = some c) (h : rowsB (l.take (j + 1)) = true) (hd : mayD d = true) (hl : lessD c d = true) : rowsB (l.take (j + 1 + 1)) = true := by
  refine rows_step hx h hd (fun i e hi he => ?_)
  obtain rfl : i = j := by omega
  rw [hc] at he
  cases he
  exact hl
theorem rows_may {l : List Dot} {k : Nat} {d : Dot} (hx : l[k]? = some d) (h : mayD d = false) : rowsB l = false := by
  rcases hb : rowsB l with _ | _
  · rfl
  · have := (rowsB_iff.1 hb).1 d (List.mem_of_getElem? hx)
    rw [h] at this
    cases this
theorem rows_less {l : List Dot} {j : Nat} {c d : Dot} (hc : l[j]? = some c) (hd : l[j + 1]? = some d) (h : lessD c d = false) : rowsB l = false := by
  rcases hb : rowsB l with _ | _
  · rfl
  · obtain ⟨h1, e1⟩ := List.getElem?_eq_some_iff.1 hc
    obtain ⟨h2, e2⟩ := List.getElem?_eq_some_iff.1 hd
    have := List.pairwise_iff_getElem.1 (rowsB_iff.1 hb).2 j (j + 1) h1 h2 (by omega)
    rw [e1, e2, h] at this
    cases this
theorem set_step {s : List En} {k : Nat} {x : En} (hx : s[k]? = some x) (h : (s.take k).all mayN = true ∧ SrtK (s.take k)) (hd : mayN x = true) (hp : ∀ j y, k = j + 1 → s[j]? = some y → ltK y.1 x.1 = true) : (s.take (k + 1)).all mayN = true ∧ SrtK (s.take (k + 1)) := by
  rw [take_snocL hx]
  refine ⟨by simp [h.1, hd], ?_⟩
  have h2 := h.2
  unfold SrtK at *
  rw [List.pairwise_append]
  refine ⟨h2, List.pairwise_singleton _ _, fun z hz y hy => ?_⟩
  simp at hy
  subst hy
  obtain ⟨i, hi⟩ := List.mem_iff_getElem?.1 hz
  rw [List.getElem?_take] at hi
  split at hi
  · rename_i hik
    obtain ⟨j, rfl⟩ : ∃ j, k = j + 1 := ⟨k - 1, by omega⟩
    have hjl : j < s.length := by have := (List.getElem?_eq_some_iff.1 hx).1; omega
    have hj : s[j]? = some s[j] := List.getElem?_eq_getElem hjl
    have h3 := hp j _ rfl hj
    rcases Nat.lt_or_ge i j with hij | hij
    · have hil : i < s.length := by omega
      have := List.pairwise_iff_getElem.1 h2 i j (by rw [List.length_take]; omega) (by rw [List.length_take]; omega) hij
      rw [List.getElem_take, List.getElem_take] at this
      rw [List.getElem?_eq_getElem hil] at hi
      cases hi
      exact ltK_trans this h3
    · obtain rfl : i = j := by omega
      rw [hj] at hi
      cases hi
      exact h3
  · cases hi
theorem set_stepS {s : List En} {j : Nat} {c x : En} (hx : s[j + 1]? = some x) (hc : s[j]? = some c) (h : (s.take (j + 1)).all mayN = true ∧ SrtK (s.take (j + 1))) (hd : mayN x = true) (hl : ltK c.1 x.1 = true) : (s.take (j + 1 + 1)).all mayN = true ∧ SrtK (s.take (j + 1 + 1)) := by
  refine set_step hx h hd (fun i e hi he => ?_)
  obtain rfl : i = j := by omega
  rw [hc] at he
  cases he
  exact hl
theorem set_may {s : List En} {k : Nat} {x : En} (hx : s[k]? = some x) (h : mayN x = false) : mayS s = false := by
  rcases hb : mayS s with _ | _
  · rfl
  · have := (mayS_iff.1 hb).1 x (List.mem_of_getElem? hx)
    rw [h] at this
    cases this
theorem set_less {s : List En} {j : Nat} {c d : En} (hc : s[j]? = some c) (hd : s[j + 1]? = some d) (h : ltK c.1 d.1 = false) : mayS s = false := by
  rcases hb : mayS s with _ | _
  · rfl
  · have := srt_lt (mayS_iff.1 hb).2.1 hc hd (by omega)
    rw [h] at this
    cases this
/-- What a check tells. -/
def chkS (s : List En) : Int := if mayS s = true then 0 else 1
end Go.Proofs.Ytiodlpoeifmldaa
