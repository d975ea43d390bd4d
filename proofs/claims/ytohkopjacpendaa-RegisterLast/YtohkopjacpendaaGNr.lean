/- What the loops of layer 12's statements keep, in plain mathematics. -/
import Derived.Test.YtohkopjacpendaaGNm
namespace Go.Proofs.Ytohkopjacpendaa
set_option linter.unusedVariables false
/-- Behind the first k notes, all of which may be. -/
def RF (s A : List Nt) (k : Nat) : Prop := RG A (s.take k) ∧ mayR12 A = true ∧ A.length ≤ k ∧ ∀ x ∈ s.take k, mayNt x = true
theorem RF.nil (s : List Nt) : RF s [] 0 := ⟨by rw [List.take_zero]; exact RG.nil, by decide, by decide, fun x hx => by simp at hx⟩
theorem RF.step {s A : List Nt} {k : Nat} (h : RF s A k) {x : Nt} (hx : s[k]? = some x) (hm : mayNt x = true) (hk : k < 4000) : RF s (setN A x) (k + 1) := by
  obtain ⟨h1, h2, h3, h4⟩ := h
  refine ⟨by rw [takeG_snoc hx]; exact h1.step x, setN_may h2 hm (by omega), by have := setN_len A x; omega, fun y hy => ?_⟩
  rw [takeG_snoc hx] at hy
  rcases List.mem_append.1 hy with q | q
  · exact h4 y q
  · rw [List.mem_singleton] at q; subst q; exact hm
/-- Behind c notes of s, among them all from j on. -/
def RO (s B : List Nt) (c j : Nat) : Prop := ∃ D, RG B D ∧ (∀ x ∈ D, x ∈ s) ∧ (∀ x ∈ s.drop j, x ∈ D) ∧ mayR12 B = true ∧ B.length ≤ c
theorem RO.nil (s : List Nt) : RO s [] 0 s.length := ⟨[], RG.nil, fun x hx => (by cases hx), fun x hx => (by rw [List.drop_length] at hx; cases hx), by decide, by decide⟩
theorem RO.any {s B : List Nt} {c j i : Nat} (h : RO s B c j) (hs : ∀ x ∈ s, mayNt x = true) {x : Nt} (hx : s[i]? = some x) (hc : c < 4000) : RO s (setN B x) (c + 1) j := by
  obtain ⟨D, h1, h2, h3, h4, h5⟩ := h
  have hm : x ∈ s := List.mem_of_getElem? hx
  refine ⟨D ++ [x], h1.step x, fun y hy => ?_, fun y hy => List.mem_append_left _ (h3 y hy), setN_may h4 (hs x hm) (by omega), by have := setN_len B x; omega⟩
  rcases List.mem_append.1 hy with q | q
  · exact h2 y q
  · rw [List.mem_singleton] at q; subst q; exact hm
theorem RO.back {s B : List Nt} {c i : Nat} (h : RO s B c (i + 1)) (hs : ∀ x ∈ s, mayNt x = true) {x : Nt} (hx : s[i]? = some x) (hc : c < 4000) : RO s (setN B x) (c + 1) i := by
  obtain ⟨D, h1, h2, h3, h4, h5⟩ := h
  have hm : x ∈ s := List.mem_of_getElem? hx
  refine ⟨D ++ [x], h1.step x, fun y hy => ?_, fun y hy => ?_, setN_may h4 (hs x hm) (by omega), by have := setN_len B x; omega⟩
  · rcases List.mem_append.1 hy with q | q
    · exact h2 y q
    · rw [List.mem_singleton] at q; subst q; exact hm
  · obtain ⟨hk, rfl⟩ := List.getElem?_eq_some_iff.1 hx
    rw [List.drop_eq_getElem_cons hk] at hy
    rcases List.mem_cons.1 hy with q | q
    · subst q; exact List.mem_append_right _ (by simp)
    · exact List.mem_append_left _ (h3 y q)
theorem RO.may {s B : List Nt} {c j : Nat} (h : RO s B c j) : mayR12 B = true ∧ B.length ≤ c := by
  obtain ⟨D, _, _, _, h4, h5⟩ := h
  exact ⟨h4, h5⟩
theorem RO.meet {s A B : List Nt} {c n : Nat} (h : RO s B c 0) (hA : RF s A n) (hn : s.length = n) : A = B := by
  obtain ⟨D, h1, h2, h3, _, _⟩ := h
  have hA := hA.1
  rw [← hn, List.take_length] at hA
  exact hA.meet h1 (fun x => ⟨fun q => h3 x (by rw [List.drop_zero]; exact q), h2 x⟩)
/-- Behind those of the first k notes that may be. -/
def RL (s A : List Nt) (k : Nat) : Prop := RG A ((s.take k).filter mayNt) ∧ mayR12 A = true ∧ A.length ≤ k
theorem RL.nil (s : List Nt) : RL s [] 0 := ⟨by rw [List.take_zero]; exact RG.nil, by decide, by decide⟩
theorem RL.step {s A : List Nt} {k : Nat} (h : RL s A k) {x : Nt} (hx : s[k]? = some x) (hm : mayNt x = true) (hk : k < 4000) : RL s (setN A x) (k + 1) := by
  obtain ⟨h1, h2, h3⟩ := h
  refine ⟨?_, setN_may h2 hm (by omega), by have := setN_len A x; omega⟩
  rw [takeG_snoc hx, List.filter_append, List.filter_cons_of_pos hm, List.filter_nil]
  exact h1.step x
theorem RL.skip {s A : List Nt} {k : Nat} (h : RL s A k) {x : Nt} (hx : s[k]? = some x) (hm : mayNt x = false) : RL s A (k + 1) := by
  obtain ⟨h1, h2, h3⟩ := h
  refine ⟨?_, h2, by omega⟩
  rw [takeG_snoc hx, List.filter_append, List.filter_cons_of_neg (by simp [hm]), List.filter_nil, List.append_nil]
  exact h1
/-- Is the key's note among the first k ones? -/
def smN (s : List Nt) (t : ByteArray) (o : Option Nt) (k : Nat) : Bool := ((s.take k).filter mayNt).any (fun x => decide (x.1 = t) && decide (o = some x))
theorem smN_zero (s : List Nt) (t : ByteArray) (o : Option Nt) : smN s t o 0 = false := by simp [smN]
theorem smN_next {s : List Nt} {t : ByteArray} {o : Option Nt} {k : Nat} {x : Nt} (hx : s[k]? = some x) : smN s t o (k + 1) = (smN s t o k || (mayNt x && (decide (x.1 = t) && decide (o = some x)))) := by
  unfold smN
  rw [takeG_snoc hx, List.filter_append, List.any_append]
  rcases hm : mayNt x with _ | _
  · rw [List.filter_cons_of_neg (by simp [hm]), List.filter_nil]
    simp
  · rw [List.filter_cons_of_pos hm, List.filter_nil]
    simp
theorem smN_skip1 {s : List Nt} {t : ByteArray} {o : Option Nt} {k : Nat} {x : Nt} (hx : s[k]? = some x) (h : ¬ x.1 = t) : smN s t o (k + 1) = smN s t o k := by
  rw [smN_next hx, decide_eq_false h]
  simp
theorem smN_skip2 {s : List Nt} {t : ByteArray} {o : Option Nt} {k : Nat} {x : Nt} (hx : s[k]? = some x) (h : mayNt x = false) : smN s t o (k + 1) = smN s t o k := by
  rw [smN_next hx, h]
  simp
theorem smN_take {s : List Nt} {t : ByteArray} {k : Nat} {x y : Nt} (hx : s[k]? = some x) (h : mayNt x = true) (he : x.1 = t) : smN s t (some y) (k + 1) = (smN s t (some y) k || decide (y = x)) := by
  rw [smN_next hx, h, decide_eq_true he]
  simp
/-- A note that may be, of the key: there is the key's, and it is not earlier. -/
theorem RL.late {s A : List Nt} {n k : Nat} (h : RL s A n) (hn : s.length = n) {x : Nt} (hx : s[k]? = some x) (hm : mayNt x = true) {o : Option Nt} (ho : getG kN A x.1 = o) : ∃ y, o = some y ∧ laterN x y = false := by
  have hb := h.1.best x.1
  rw [← hn, List.take_length, ho] at hb
  have hmem : x ∈ s.filter mayNt := List.mem_filter.2 ⟨List.mem_of_getElem? hx, hm⟩
  rcases o with _ | y
  · exact absurd rfl (hb x hmem)
  · exact ⟨y, rfl, hb.2.2 x hmem rfl⟩
theorem RL.end {s A : List Nt} {n : Nat} (h : RL s A n) (hn : s.length = n) (t : ByteArray) : smN s t (getG kN A t) n = (getG kN A t).isSome := by
  have hb := h.1.best t
  rw [← hn, List.take_length] at hb
  unfold smN
  rw [← hn, List.take_length]
  rcases ho : getG kN A t with _ | y
  · simp
  · rw [ho] at hb
    rw [Option.isSome_some, List.any_eq_true]
    exact ⟨y, hb.1, by rw [decide_eq_true hb.2.1, decide_eq_true rfl]; rfl⟩
end Go.Proofs.Ytohkopjacpendaa
