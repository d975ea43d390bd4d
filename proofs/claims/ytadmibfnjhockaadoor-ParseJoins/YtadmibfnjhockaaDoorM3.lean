/- Lines of tokens: moved on, with lines ahead, with a text behind (layer 15), in plain mathematics. -/
import Derived.Test.YtadmibfnjhockaaDoorM2
namespace Go.Proofs.YtadmibfnjhockaaDoor
set_option linter.unusedVariables false
def shD (d : Int) (x : Dc) : Dc := lnD x (x.2.2.2.2.2.2 + d)
def mapE (d : Int) : Except (Int × Int) (List Dc) → Except (Int × Int) (List Dc)
  | .error (n, e) => .error (n + d, e)
  | .ok out => .ok (out.map (shD d))
/-- Tokens so many lines further on have the lines, so many further on; a token that is not there is asked of no one. -/
theorem linP_sh (d : Int) : ∀ (f : Nat) (l : List Tk) (out Y : List Dc), linP f l out = .ok Y → linP f (l.map (shT d)) (out.map (shD d)) = .ok (Y.map (shD d))
  | 0, l, out, Y, h => by cases h; rfl
  | f + 1, [], out, Y, h => by cases h; rfl
  | f + 1, t :: r, out, Y, h => by
    rw [linP] at h
    rw [List.map_cons, linP]
    by_cases h0 : t.1 = 0
    · rw [if_pos h0] at h
      rw [if_pos (show (shT d t).1 = 0 from h0)]
      cases h
      rfl
    · rw [if_neg h0] at h
      rw [if_neg (show ¬ (shT d t).1 = 0 from h0)]
      by_cases h5 : t.1 = 5
      · rw [if_pos h5] at h
        rw [if_pos (show (shT d t).1 = 5 from h5)]
        exact linP_sh d f r out Y h
      · rw [if_neg h5] at h
        rw [if_neg (show ¬ (shT d t).1 = 5 from h5), List.length_map]
        by_cases h60 : out.length = 60
        · rw [if_pos h60] at h; cases h
        · rw [if_neg h60] at h
          rw [if_neg h60]
          have e1 : (shT d t :: r.map (shT d)) = (t :: r).map (shT d) := rfl
          rw [e1, takeU_sh]
          simp only at h ⊢
          rw [dclU_sh, List.length_map]
          by_cases hq : (dclU ((t :: r).takeWhile inU)).2.2 = false ∨ (dclU ((t :: r).takeWhile inU)).2.1 ≠ ((t :: r).takeWhile inU).length
          · rw [if_pos hq] at h; cases h
          · rw [if_neg hq] at h
            rw [if_neg hq, ← List.map_drop]
            have q := linP_sh d f _ _ Y h
            rw [List.map_append] at q
            exact q
theorem linP_up : ∀ (f : Nat) (l : List Tk) (out Y : List Dc), linP f l out = .ok Y → out.length ≤ Y.length
  | 0, l, out, Y, h => by cases h; exact Nat.le_refl _
  | f + 1, [], out, Y, h => by cases h; exact Nat.le_refl _
  | f + 1, t :: r, out, Y, h => by
    rw [linP] at h
    split at h
    · cases h; exact Nat.le_refl _
    split at h
    · exact linP_up f _ _ _ h
    split at h
    · cases h
    simp only at h
    split at h
    · cases h
    have := linP_up f _ _ _ h
    rw [List.length_append, List.length_singleton] at this
    omega
/-- Lines ahead change nothing, if they are not too many with them. -/
theorem linP_pre (X : List Dc) : ∀ (f : Nat) (l : List Tk) (out Y : List Dc), linP f l out = .ok Y → X.length + Y.length ≤ 60 → linP f l (X ++ out) = .ok (X ++ Y)
  | 0, l, out, Y, h, _ => by cases h; rfl
  | f + 1, [], out, Y, h, _ => by cases h; rfl
  | f + 1, t :: r, out, Y, h, hn => by
    rw [linP] at h ⊢
    split at h
    · rename_i h0
      rw [if_pos h0]
      cases h; rfl
    rename_i h0
    rw [if_neg h0]
    split at h
    · rename_i h5
      rw [if_pos h5]
      exact linP_pre X f _ _ _ h hn
    rename_i h5
    rw [if_neg h5]
    split at h
    · cases h
    rename_i h60
    simp only at h ⊢
    split at h
    · cases h
    rename_i hq
    have hu := linP_up f _ _ _ h
    rw [List.length_append, List.length_singleton] at hu
    rw [if_neg (by rw [List.length_append]; omega), if_neg hq, List.append_assoc]
    exact linP_pre X f _ _ _ h hn
theorem linP_fuel : ∀ (f g : Nat) (l : List Tk) (out : List Dc), l.length ≤ f → l.length ≤ g → linP f l out = linP g l out
  | 0, 0, l, out, hf, hg => rfl
  | 0, g + 1, l, out, hf, hg => by
    have : l = [] := List.length_eq_zero_iff.1 (by omega)
    subst this
    rfl
  | f + 1, 0, l, out, hf, hg => by
    have : l = [] := List.length_eq_zero_iff.1 (by omega)
    subst this
    rfl
  | f + 1, g + 1, [], out, hf, hg => rfl
  | f + 1, g + 1, t :: r, out, hf, hg => by
    simp only [List.length_cons] at hf hg
    rw [linP, linP]
    by_cases h0 : t.1 = 0
    · rw [if_pos h0, if_pos h0]
    · rw [if_neg h0, if_neg h0]
      by_cases h5 : t.1 = 5
      · rw [if_pos h5, if_pos h5]
        exact linP_fuel f g r out (by omega) (by omega)
      · rw [if_neg h5, if_neg h5]
        have hu : 1 ≤ ((t :: r).takeWhile inU).length := by
          rw [List.takeWhile_cons, if_pos (by unfold inU; exact decide_eq_true ⟨h0, h5⟩)]
          simp
        have hd : ∀ out, linP f ((t :: r).drop ((t :: r).takeWhile inU).length) out = linP g ((t :: r).drop ((t :: r).takeWhile inU).length) out := fun out => linP_fuel f g _ out (by rw [List.length_drop, List.length_cons]; omega) (by rw [List.length_drop, List.length_cons]; omega)
        simp only [hd]
theorem takeU_end {E : Tk} (hE : inU E = false) (A R : List Tk) : (A ++ E :: R).takeWhile inU = A.takeWhile inU := by
  induction A with
  | nil => rw [List.nil_append, List.takeWhile_cons, if_neg (by rw [hE]; decide)]; rfl
  | cons t r ih =>
    rw [List.cons_append, List.takeWhile_cons, List.takeWhile_cons, ih]
theorem takeU_len (A : List Tk) : (A.takeWhile inU).length ≤ A.length := by
  induction A with
  | nil => simp
  | cons t r ih =>
    rw [List.takeWhile_cons]
    split
    · simp only [List.length_cons]; omega
    · simp
/-- A text behind a line's end: the lines ahead are told as they are alone. -/
theorem linP_end {E L : Tk} (hE : E.1 = 0) (hL : L.1 = 5) : ∀ (n : Nat) (A R : List Tk) (out X : List Dc), A.length ≤ n → (∀ t ∈ A, t.1 ≠ 0) → ∀ f g h, A.length + 1 ≤ f → A.length + 1 + R.length ≤ g → R.length ≤ h → linP f (A ++ [E]) out = .ok X → linP g (A ++ L :: R) out = linP h R X
  | n, [], R, out, X, hn, hA, f, g, h, hf, hg, hh, hx => by
    obtain ⟨f, rfl⟩ : ∃ f', f = f' + 1 := ⟨f - 1, by omega⟩
    obtain ⟨g, rfl⟩ : ∃ g', g = g' + 1 := ⟨g - 1, by omega⟩
    rw [List.nil_append, linP, if_pos hE] at hx
    cases hx
    rw [List.nil_append, linP, if_neg (by omega), if_pos hL]
    exact linP_fuel g h R out (by simp at hg; omega) hh
  | 0, t :: r, R, out, X, hn, hA, f, g, h, hf, hg, hh, hx => by simp at hn
  | n + 1, t :: r, R, out, X, hn, hA, f, g, h, hf, hg, hh, hx => by
    simp only [List.length_cons] at hn hf hg
    obtain ⟨f, rfl⟩ : ∃ f', f = f' + 1 := ⟨f - 1, by omega⟩
    obtain ⟨g, rfl⟩ : ∃ g', g = g' + 1 := ⟨g - 1, by omega⟩
    have h0 : ¬ t.1 = 0 := hA t List.mem_cons_self
    rw [List.cons_append, linP, if_neg h0] at hx
    rw [List.cons_append, linP, if_neg h0]
    by_cases h5 : t.1 = 5
    · rw [if_pos h5] at hx
      rw [if_pos h5]
      exact linP_end hE hL n r R out X (by omega) (fun x hx => hA x (List.mem_cons_of_mem _ hx)) f g h (by omega) (by omega) hh hx
    · rw [if_neg h5] at hx
      rw [if_neg h5]
      by_cases h60 : out.length = 60
      · rw [if_pos h60] at hx; cases hx
      · rw [if_neg h60] at hx
        rw [if_neg h60]
        have iE : inU E = false := by unfold inU; exact decide_eq_false (fun q => q.1 hE)
        have iL : inU L = false := by unfold inU; exact decide_eq_false (fun q => q.2 hL)
        have hu : 1 ≤ ((t :: r).takeWhile inU).length := by
          rw [List.takeWhile_cons, if_pos (by unfold inU; exact decide_eq_true ⟨h0, h5⟩)]
          simp
        have hul := takeU_len (t :: r)
        rw [← List.cons_append, takeU_end iE] at hx
        rw [← List.cons_append, takeU_end iL]
        simp only at hx ⊢
        split at hx
        · cases hx
        · rename_i hq
          rw [if_neg hq]
          rw [List.drop_append_of_le_length hul] at hx ⊢
          refine linP_end hE hL n _ R _ X ?_ (fun x hx => hA x (List.mem_of_mem_drop hx)) f g h ?_ ?_ hh hx
          · rw [List.length_drop, List.length_cons]; omega
          · rw [List.length_drop, List.length_cons]; omega
          · rw [List.length_drop, List.length_cons]; omega
end Go.Proofs.YtadmibfnjhockaaDoor
