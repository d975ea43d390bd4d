/- The program's lines (layer 15), in plain mathematics: all lines are told first, and then how many they are. -/
import Derived.Test.YtadmibfnjhockaaDoorM5
namespace Go.Proofs.YtadmibfnjhockaaDoor
set_option linter.unusedVariables false
/-- A text has 60 lines at the most. -/
theorem linP_len : ∀ (f : Nat) (l : List Tk) (out Y : List Dc), linP f l out = .ok Y → out.length ≤ 60 → Y.length ≤ 60
  | 0, l, out, Y, h, hn => by cases h; exact hn
  | f + 1, [], out, Y, h, hn => by cases h; exact hn
  | f + 1, t :: r, out, Y, h, hn => by
    rw [linP] at h
    split at h
    · cases h; exact hn
    split at h
    · exact linP_len f _ _ _ h hn
    split at h
    · cases h
    rename_i h60
    dsimp only at h
    split at h
    · cases h
    · exact linP_len f _ _ _ h (by rw [List.length_append, List.length_singleton]; omega)
/-- The lines of tokens, however many. -/
def linA : Nat → List Tk → List Dc → Except Int (List Dc)
  | 0, _, out => .ok out
  | f + 1, l, out => match l with
    | [] => .ok out
    | t :: r =>
      if t.1 = 0 then .ok out
      else if t.1 = 5 then linA f r out
      else
        let U := (t :: r).takeWhile inU
        let q := dclU U
        if q.2.2 = false ∨ q.2.1 ≠ U.length then .error (((t :: r)[q.2.1]?).getD (0, ⟨#[]⟩, 0, 0)).2.2.2
        else linA f ((t :: r).drop U.length) (out ++ [lnD q.1 t.2.2.2])
theorem linA_up : ∀ (f : Nat) (l : List Tk) (out Y : List Dc), linA f l out = .ok Y → out.length ≤ Y.length
  | 0, l, out, Y, h => by cases h; exact Nat.le_refl _
  | f + 1, [], out, Y, h => by cases h; exact Nat.le_refl _
  | f + 1, t :: r, out, Y, h => by
    rw [linA] at h
    split at h
    · cases h; exact Nat.le_refl _
    split at h
    · exact linA_up f _ _ _ h
    dsimp only at h
    split at h
    · cases h
    · have q := linA_up f _ _ _ h
      rw [List.length_append, List.length_singleton] at q
      omega
/-- Not too many lines: they are the document's. -/
theorem linA_P : ∀ (f : Nat) (l : List Tk) (out Y : List Dc), linA f l out = .ok Y → Y.length ≤ 60 → linP f l out = .ok Y
  | 0, l, out, Y, h, hn => by cases h; rfl
  | f + 1, [], out, Y, h, hn => by cases h; rfl
  | f + 1, t :: r, out, Y, h, hn => by
    have hup := linA_up _ _ _ _ h
    rw [linA] at h
    rw [linP]
    split at h
    · rename_i h0; rw [if_pos h0]; cases h; rfl
    rename_i h0
    rw [if_neg h0]
    split at h
    · rename_i h5; rw [if_pos h5]; exact linA_P f _ _ _ h hn
    rename_i h5
    rw [if_neg h5]
    dsimp only at h ⊢
    split at h
    · cases h
    rename_i hb
    have q := linA_up f _ _ _ h
    rw [List.length_append, List.length_singleton] at q
    rw [if_neg (by omega), if_neg hb]
    exact linA_P f _ _ _ h hn
theorem linP_A : ∀ (f : Nat) (l : List Tk) (out Y : List Dc), linP f l out = .ok Y → linA f l out = .ok Y
  | 0, l, out, Y, h => by cases h; rfl
  | f + 1, [], out, Y, h => by cases h; rfl
  | f + 1, t :: r, out, Y, h => by
    rw [linP] at h
    rw [linA]
    split at h
    · rename_i h0; rw [if_pos h0]; cases h; rfl
    rename_i h0
    rw [if_neg h0]
    split at h
    · rename_i h5; rw [if_pos h5]; exact linP_A f _ _ _ h
    rename_i h5
    rw [if_neg h5]
    split at h
    · cases h
    dsimp only at h ⊢
    split at h
    · cases h
    rename_i hb
    rw [if_neg hb]
    exact linP_A f _ _ _ h
theorem linP_E : ∀ (f : Nat) (l : List Tk) (out : List Dc) (x : Int), linP f l out = .error (x, 2) → linA f l out = .error x
  | 0, l, out, x, h => by cases h
  | f + 1, [], out, x, h => by cases h
  | f + 1, t :: r, out, x, h => by
    rw [linP] at h
    rw [linA]
    split at h
    · cases h
    rename_i h0
    rw [if_neg h0]
    split at h
    · rename_i h5; rw [if_pos h5]; exact linP_E f _ _ _ h
    rename_i h5
    rw [if_neg h5]
    split at h
    · cases h
    dsimp only at h ⊢
    split at h
    · rename_i hb
      rw [if_pos hb]
      cases h
      rfl
    · rename_i hb
      rw [if_neg hb]
      exact linP_E f _ _ _ h
theorem linA_fuel : ∀ (f g : Nat) (l : List Tk) (out : List Dc), l.length ≤ f → l.length ≤ g → linA f l out = linA g l out
  | 0, 0, l, out, hf, hg => rfl
  | 0, g + 1, l, out, hf, hg => by
    have : l = [] := List.length_eq_zero_iff.1 (by omega)
    subst this
    rfl
  | f + 1, 0, l, out, hf, hg => by
    have : l = [] := List.length_eq_zero_iff.1 (by omega)
    subst this
    rfl
  | f + 1, g + 1, [], out, hf, hg => rfl
  | f + 1, g + 1, t :: r, out, hf, hg => by
    rw [linA, linA]
    split
    · rfl
    rename_i h0
    split
    · exact linA_fuel f g r out (by simpa using hf) (by simpa using hg)
    rename_i h5
    dsimp only
    split
    · rfl
    have hl : 0 < ((t :: r).takeWhile inU).length := by
      rw [List.takeWhile_cons, if_pos (by unfold inU; rw [decide_eq_true_iff]; exact ⟨h0, h5⟩)]
      simp
    rw [List.length_cons] at hf hg
    exact linA_fuel f g _ _ (by rw [List.length_drop, List.length_cons]; omega) (by rw [List.length_drop, List.length_cons]; omega)
def linX (l : List Tk) (out : List Dc) : Except Int (List Dc) := linA l.length l out
theorem linX_nil (out : List Dc) : linX [] out = .ok out := rfl
theorem linX_end {t : Tk} (h : t.1 = 0) (r : List Tk) (out : List Dc) : linX (t :: r) out = .ok out := by
  show linA (r.length + 1) (t :: r) out = _
  rw [linA, if_pos h]
theorem linX_line {t : Tk} (h : t.1 = 5) (r : List Tk) (out : List Dc) : linX (t :: r) out = linX r out := by
  show linA (r.length + 1) (t :: r) out = _
  rw [linA, if_neg (by omega), if_pos h]
  rfl
theorem linX_bad {t : Tk} (h0 : t.1 ≠ 0) (h5 : t.1 ≠ 5) (r : List Tk) {out : List Dc} {d : Dc} {at' : Nat} {ok : Bool} (hd : dclU ((t :: r).takeWhile inU) = (d, at', ok)) (hb : ok = false ∨ at' ≠ ((t :: r).takeWhile inU).length) {u : Tk} (hu : (t :: r)[at']? = some u) : linX (t :: r) out = .error u.2.2.2 := by
  show linA (r.length + 1) (t :: r) out = _
  rw [linA, if_neg h0, if_neg h5]
  simp only
  rw [hd, if_pos hb, hu]
  rfl
theorem linX_good {t : Tk} (h0 : t.1 ≠ 0) (h5 : t.1 ≠ 5) (r : List Tk) {out : List Dc} {d : Dc} {at' : Nat} (hd : dclU ((t :: r).takeWhile inU) = (d, at', true)) (hb : at' = ((t :: r).takeWhile inU).length) : linX (t :: r) out = linX ((t :: r).drop at') (out ++ [lnD d t.2.2.2]) := by
  have hl : 0 < ((t :: r).takeWhile inU).length := by
    rw [List.takeWhile_cons, if_pos (by unfold inU; rw [decide_eq_true_iff]; exact ⟨h0, h5⟩)]
    simp
  show linA (r.length + 1) (t :: r) out = _
  rw [linA, if_neg h0, if_neg h5]
  simp only
  rw [hd, if_neg (by rintro (h | h); cases h; exact h hb), ← hb]
  unfold linX
  refine linA_fuel _ _ _ _ ?_ (Nat.le_refl _)
  rw [List.length_drop, List.length_cons]
  omega
/-- Only the last token ends all. -/
def EndZ (l : List Tk) : Prop := ∀ (i : Nat) t, l[i]? = some t → t.1 = 0 → i + 1 = l.length
theorem EndZ.drop {l : List Tk} (h : EndZ l) (k : Nat) : EndZ (l.drop k) := fun i t ht h0 => by
  rw [List.getElem?_drop] at ht
  have := h _ t ht h0
  rw [List.length_drop]
  omega
theorem lexB_endz {l : List Int} {ts : List Tk} {x e : Int} (h : lexB l = (ts, x, e)) : EndZ ts := by
  have nil : EndZ [] := fun i t ht => by simp at ht
  unfold lexB at h
  split at h
  · cases h; exact nil
  · have q := lexP_ne l.length l 1 [] (by simp)
    rcases hr : lexP l.length l 1 [] with ⟨y, e'⟩ | ⟨ln, A⟩
    · rw [hr] at h
      cases h
      exact nil
    · rw [hr] at h q
      unfold finL at h
      split at h
      · rename_i heq
        cases heq
      · rename_i heq
        cases heq
        split at h
        · cases h; exact nil
        · cases h
          intro i t ht h0
          rcases Nat.lt_or_ge i A.length with hi | hi
          · exfalso
            rw [List.getElem?_append_left hi] at ht
            exact q t (List.mem_of_getElem? ht) h0
          · have := (List.getElem?_eq_some_iff.1 ht).1
            simp at this ⊢
            omega
/-- What the program tells of a text's tokens. -/
def gQ (r : Except Int (List Dc)) : List Dc × Int × Int := match r with
  | .error x => ([], x, 2)
  | .ok out => if 60 < out.length then ([], ((out[60]?).getD (0, false, ⟨#[]⟩, ⟨#[]⟩, 0, [], 0)).2.2.2.2.2.2, 7) else (out, 0, 0)
def linG (l : List Int) : List Dc × Int × Int := if (lexB l).2.2 ≠ 0 then ([], (lexB l).2.1, (lexB l).2.2) else gQ (linX (lexB l).1 [])
theorem linG_lex {l : List Int} {z e : Int} (h : lexB l = ([], z, e)) (he : e ≠ 0) : linG l = ([], z, e) := by
  unfold linG
  rw [h]
  exact if_pos he
theorem linG_ok {l : List Int} {X : List Dc} {x : Int} (h : linB l = (X, x, 0)) : linG l = (X, x, 0) := by
  unfold linB linQ at h
  unfold linG
  split at h
  · rename_i h0
    rw [if_pos h0]
    exact h
  rename_i h0
  rw [if_neg h0]
  rcases hr : linP (lexB l).1.length (lexB l).1 [] with ⟨y, e⟩ | Y
  · rw [hr] at h
    exfalso
    cases h
    exact linP_err _ _ _ _ _ hr rfl
  · rw [hr] at h
    cases h
    show gQ (linA _ _ _) = _
    rw [linP_A _ _ _ _ hr]
    have := linP_len _ _ _ _ hr (Nat.zero_le _)
    exact if_neg (by omega)
theorem linG_two {l : List Int} {x : Int} (h : linB l = ([], x, 2)) : linG l = ([], x, 2) := by
  unfold linB linQ at h
  unfold linG
  split at h
  · rename_i h0
    rw [if_pos h0]
    exact h
  rename_i h0
  rw [if_neg h0]
  rcases hr : linP (lexB l).1.length (lexB l).1 [] with ⟨y, e⟩ | Y
  · rw [hr] at h
    cases h
    show gQ (linA _ _ _) = _
    rw [linP_E _ _ _ _ hr]
    rfl
  · rw [hr] at h
    cases h
theorem linB_of {l : List Int} {X : List Dc} {x : Int} (h : linG l = (X, x, 0)) : linB l = (X, x, 0) := by
  unfold linG at h
  unfold linB linQ
  split at h
  · rename_i h0
    rw [if_pos h0]
    exact h
  rename_i h0
  rw [if_neg h0]
  rcases hr : linX (lexB l).1 [] with y | Y
  · rw [hr] at h
    cases h
  · rw [hr] at h
    unfold gQ at h
    simp only at h
    split at h
    · cases h
    · rename_i h6
      cases h
      rw [linA_P _ _ _ _ hr (by omega)]
/-- Two texts, one behind the other. -/
theorem joinsG {a b : List Int} (ha : a.length ≤ 1000) (hb : b.length ≤ 1000) {X Y : List Dc} {x y : Int} (h1 : linG a = (X, x, 0)) (h2 : linG b = (Y, y, 0)) (hn : X.length + Y.length ≤ 60) : linG (a ++ 10 :: b) = (X ++ Y.map (shD (1 + feeds a)), 0, 0) ∨ ∃ z, linG (a ++ 10 :: b) = ([], z, 7) ∧ 390 < a.length + b.length := by
  rcases joins15 ha hb (linB_of h1) (linB_of h2) hn with h | ⟨z, h, h3⟩
  · exact .inl (linG_ok h)
  · exact .inr ⟨z, linG_lex h (by decide), h3⟩
end Go.Proofs.YtadmibfnjhockaaDoor
