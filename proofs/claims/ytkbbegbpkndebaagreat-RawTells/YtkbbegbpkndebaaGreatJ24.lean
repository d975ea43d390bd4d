/- Texts of this claim, joined: Z6. -/
import Derived.Test.YtkbbegbpkndebaaGreatJ10
import Derived.Test.YtkbbegbpkndebaaGreatJ5
/- Which sets of layer 9 may be, step by step. -/
namespace Go.Proofs.YtkbbegbpkndebaaGreat
set_option linter.unusedVariables false
theorem set9_step {s : List En} {k : Nat} {x : En} (hx : s[k]? = some x) (h : (s.take k).all mayN9 = true ∧ SrtK (s.take k)) (hd : mayN9 x = true) (hp : ∀ j y, k = j + 1 → s[j]? = some y → ltK y.1 x.1 = true) : (s.take (k + 1)).all mayN9 = true ∧ SrtK (s.take (k + 1)) := by
 rw [take_snocL hx]
 refine ⟨by simp [h.1, hd], ?_⟩
 have h2 := h.2
 unfold SrtK at *
 rw [List.pairwise_append]
 refine ⟨h2, List.pairwise_singleton _ _, fun z hz y hy => ?_⟩
 simp at hy
 subst hy
 obtain ⟨i, hi⟩ := List.mem_iff_getElem?.1 hz
 rw [List.getElem?_take] at hi
 split at hi
 ·rename_i hik
  obtain ⟨j, rfl⟩ : ∃ j, k = j + 1 := ⟨k - 1, by omega⟩
  have hjl : j < s.length := by have := (List.getElem?_eq_some_iff.1 hx).1; omega
  have hj : s[j]? = some s[j] := List.getElem?_eq_getElem hjl
  have h3 := hp j _ rfl hj
  rcases Nat.lt_or_ge i j with hij | hij
  ·have hil : i < s.length := by omega
   have := List.pairwise_iff_getElem.1 h2 i j (by rw [List.length_take]; omega) (by rw [List.length_take]; omega) hij
   rw [List.getElem_take, List.getElem_take] at this
   rw [List.getElem?_eq_getElem hil] at hi
   cases hi
   exact ltK_trans this h3
  ·obtain rfl : i = j := by omega
   rw [hj] at hi
   cases hi
   exact h3
 ·cases hi
theorem set9_stepS {s : List En} {j : Nat} {c x : En} (hx : s[j + 1]? = some x) (hc : s[j]? = some c) (h : (s.take (j + 1)).all mayN9 = true ∧ SrtK (s.take (j + 1))) (hd : mayN9 x = true) (hl : ltK c.1 x.1 = true) : (s.take (j + 1 + 1)).all mayN9 = true ∧ SrtK (s.take (j + 1 + 1)) := by
 refine set9_step hx h hd (fun i e hi he => ?_)
 obtain rfl : i = j := by omega
 rw [hc] at he
 cases he
 exact hl
theorem set9_may {s : List En} {k : Nat} {x : En} (hx : s[k]? = some x) (h : mayN9 x = false) : mayS9 s = false := by
 rcases hb : mayS9 s with _ | _
 ·rfl
 ·have := (mayS9_iff.1 hb).1 x (List.mem_of_getElem? hx)
  rw [h] at this
  cases this
theorem set9_less {s : List En} {j : Nat} {c d : En} (hc : s[j]? = some c) (hd : s[j + 1]? = some d) (h : ltK c.1 d.1 = false) : mayS9 s = false := by
 rcases hb : mayS9 s with _ | _
 ·rfl
 ·have := srt_lt (mayS9_iff.1 hb).2.1 hc hd (by omega)
  rw [h] at this
  cases this
theorem mayN9_yes {k : ByteArray} {l m : List Dot} (h : mayK k = true) (h1 : l.length + m.length ≠ 0) (h3 : rowsB l = true) (h4 : rowsB m = true) : mayN9 (k, l, m) = true := by
 refine mayN9_iff.2 ⟨h, ?_, h3, h4⟩
 intro q
 rw [Prod.mk.injEq] at q
 rw [q.1, q.2] at h1
 exact h1 rfl
theorem mayN9_no0 {k : ByteArray} {l m : List Dot} (h : mayK k = false) : mayN9 (k, l, m) = false := by simp [mayN9, h]
theorem mayN9_no1 {k : ByteArray} {l m : List Dot} (h : l.length + m.length = 0) : mayN9 (k, l, m) = false := by
 have e1 := List.eq_nil_of_length_eq_zero (show l.length = 0 by omega)
 have e2 := List.eq_nil_of_length_eq_zero (show m.length = 0 by omega)
 subst e1 e2
 simp [mayN9]
theorem mayN9_no2 {k : ByteArray} {l m : List Dot} (h : rowsB l = false) : mayN9 (k, l, m) = false := by simp [mayN9, h]
theorem mayN9_no3 {k : ByteArray} {l m : List Dot} (h : rowsB m = false) : mayN9 (k, l, m) = false := by simp [mayN9, h]
end Go.Proofs.YtkbbegbpkndebaaGreat

