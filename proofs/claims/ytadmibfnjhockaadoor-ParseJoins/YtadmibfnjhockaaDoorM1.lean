/- The tokens of two texts with a line feed between (layers 14 and 15), in plain mathematics. -/
import Derived.Test.YtadmibfnjhockaaDoorM0
namespace Go.Proofs.YtadmibfnjhockaaDoor
set_option linter.unusedVariables false
theorem dropW_mid {p : Int → Bool} (hp : p 10 = false) (l m : List Int) : (l ++ 10 :: m).dropWhile p = l.dropWhile p ++ 10 :: m := by
  induction l with
  | nil => simp [hp]
  | cons c t ih =>
    simp only [List.cons_append, List.dropWhile_cons]
    split
    · exact ih
    · rfl
theorem takeW_mid {p : Int → Bool} (hp : p 10 = false) (l m : List Int) : (l ++ 10 :: m).takeWhile p = l.takeWhile p := by
  induction l with
  | nil => simp [hp]
  | cons c t ih =>
    simp only [List.cons_append, List.takeWhile_cons]
    split
    · rw [ih]
    · rfl
theorem lexP_end : ∀ (n : Nat) (l m : List Int) (ln : Int) (out : List Tk), l.length ≤ n → ∀ f g h, l.length + 1 + m.length ≤ f → l.length ≤ g → 1 + m.length ≤ h → lexP f (l ++ 10 :: m) ln out = bindL (lexP g l ln out) (lexP h (10 :: m))
  | n, [], m, ln, out, hn, f, g, h, hf, hg, hh => by
    have e : lexP g [] ln out = .ok (ln, out) := by cases g <;> rfl
    rw [e]
    exact lexP_fuel f h _ ln out (by simp at hf ⊢; omega) (by simp; omega)
  | 0, c :: t, m, ln, out, hn, f, g, h, hf, hg, hh => by simp at hn
  | n + 1, c :: t, m, ln, out, hn, f, g, h, hf, hg, hh => by
    simp only [List.length_cons] at hn hf hg
    obtain ⟨f, rfl⟩ : ∃ f', f = f' + 1 := ⟨f - 1, by omega⟩
    obtain ⟨g, rfl⟩ : ∃ g', g = g' + 1 := ⟨g - 1, by omega⟩
    have e0 : ∀ ln out, lexP f (t ++ 10 :: m) ln out = bindL (lexP g t ln out) (lexP h (10 :: m)) := fun ln out => lexP_end n t m ln out (by omega) f g h (by omega) (by omega) hh
    have e1 : ∀ (p : Int → Bool), p 10 = false → ∀ ln out, lexP f ((t ++ 10 :: m).dropWhile p) ln out = bindL (lexP g (t.dropWhile p) ln out) (lexP h (10 :: m)) := fun p hp ln out => by
      have hd := dropW_len (p := p) t
      rw [dropW_mid hp]
      exact lexP_end n _ m ln out (by omega) f g h (by omega) (by omega) hh
    rw [List.cons_append, lexP, lexP, takeW_mid isWd10]
    split
    · exact e0 ln out
    split
    · exact e1 _ (by decide) ln out
    split
    · rw [bind_push]; exact pushT_congr e0
    split
    · rw [bind_push]; exact pushT_congr e0
    split
    · rw [bind_push]; exact pushT_congr e0
    split
    · split
      · rfl
      · rw [bind_push]; exact pushT_congr (e1 isWd isWd10)
    · rfl
/-- Two texts, of which each has tokens: the tokens of both with the line's between, or too many. -/
theorem lexP_join {a b A B : List _} {la lb : Int} (h1 : lexP a.length a 1 [] = .ok (la, A)) (h2 : lexP b.length b 1 [] = .ok (lb, B)) (f : Nat) (hf : a.length + 1 + b.length ≤ f) : (A.length + 1 + B.length ≤ 800 ∧ lexP f (a ++ 10 :: b) 1 [] = .ok (lb + la, A ++ (5, ⟨#[]⟩, 0, la) :: B.map (shT la))) ∨ ∃ x, lexP f (a ++ 10 :: b) 1 [] = .error (x, 7) := by
  rw [lexP_end a.length a b 1 [] (Nat.le_refl _) f a.length (b.length + 1) hf (Nat.le_refl _) (by omega), h1]
  show _ ∧ lexP (b.length + 1) (10 :: b) la A = _ ∨ ∃ x, lexP (b.length + 1) (10 :: b) la A = _
  rw [lexP, if_neg (by decide), if_neg (by decide), if_neg (by decide), if_neg (by decide), if_pos rfl]
  unfold pushT
  by_cases h8 : 800 < A.length + 1
  · rw [if_pos h8]; exact .inr ⟨_, rfl⟩
  · rw [if_neg h8]
    have hs := lexP_sh la b.length b 1 []
    rw [h2, show (1 : Int) + la = la + 1 by omega] at hs
    have hp := lexP_pre (A ++ [(5, ⟨#[]⟩, 0, la)]) b.length b (la + 1) [] (by simp; omega)
    rw [show ([] : List Tk).map (shT la) = [] from rfl] at hs
    rw [hs] at hp
    simp only [List.append_nil, shR] at hp
    rcases hp with ⟨q1, q2⟩ | ⟨_, x, q2⟩
    · refine .inl ⟨by simp at q1; omega, ?_⟩
      rw [q2]
      simp
    · exact .inr ⟨x, q2⟩
end Go.Proofs.YtadmibfnjhockaaDoor
