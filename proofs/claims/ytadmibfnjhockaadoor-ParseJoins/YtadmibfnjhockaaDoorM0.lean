/- Tokens of two texts one behind the other (layers 14 and 15), in plain mathematics: lines moved on, tokens ahead. -/
import Derived.Test.YtadmibfnjhockaaDoorL0
namespace Go.Proofs.YtadmibfnjhockaaDoor
set_option linter.unusedVariables false
/-- A token so many lines further on. -/
def shT (d : Int) (t : Tk) : Tk := (t.1, t.2.1, t.2.2.1, t.2.2.2 + d)
def shR (d : Int) : LxR → LxR
  | .error (ln, e) => .error (ln + d, e)
  | .ok (ln, out) => .ok (ln + d, out.map (shT d))
theorem tokW_sh (l : List Int) (ln d : Int) : tokW l (ln + d) = (tokW l ln).map (shT d) := by
  unfold tokW
  split
  · rfl
  · split
    · rfl
    · rfl
theorem push_sh {d : Int} {out : List Tk} {t : Tk} {ln : Int} {k k' : Int → List Tk → LxR} (h : ∀ ln out, k' (ln + d) (out.map (shT d)) = shR d (k ln out)) : pushT (out.map (shT d)) (shT d t) (ln + d) k' = shR d (pushT out t ln k) := by
  unfold pushT
  rw [List.length_map]
  split
  · rfl
  · rw [← h ln (out ++ [t]), List.map_append]; rfl
theorem lexP_sh (d : Int) : ∀ (f : Nat) (l : List Int) (ln : Int) (out : List Tk), lexP f l (ln + d) (out.map (shT d)) = shR d (lexP f l ln out)
  | 0, l, ln, out => rfl
  | f + 1, [], ln, out => rfl
  | f + 1, c :: t, ln, out => by
    rw [lexP, lexP]
    by_cases h1 : c = 32 ∨ c = 9
    · rw [if_pos h1, if_pos h1]; exact lexP_sh d f t ln out
    · rw [if_neg h1, if_neg h1]
      by_cases h2 : c = 35
      · rw [if_pos h2, if_pos h2]; exact lexP_sh d f _ ln out
      · rw [if_neg h2, if_neg h2]
        by_cases h3 : c = 58
        · rw [if_pos h3, if_pos h3]
          exact push_sh (t := (3, ⟨#[]⟩, 0, ln)) (fun ln out => lexP_sh d f t ln out)
        · rw [if_neg h3, if_neg h3]
          by_cases h4 : c = 44
          · rw [if_pos h4, if_pos h4]
            exact push_sh (t := (4, ⟨#[]⟩, 0, ln)) (fun ln out => lexP_sh d f t ln out)
          · rw [if_neg h4, if_neg h4]
            by_cases h5 : c = 10
            · rw [if_pos h5, if_pos h5, show ln + d + 1 = ln + 1 + d by omega]
              exact push_sh (t := (5, ⟨#[]⟩, 0, ln)) (ln := ln + 1) (fun ln out => lexP_sh d f t ln out)
            · rw [if_neg h5, if_neg h5]
              by_cases h6 : isWd c = true
              · rw [if_pos h6, if_pos h6, tokW_sh]
                rcases tokW (c :: t.takeWhile isWd) ln with _ | tk
                · rfl
                · exact push_sh (fun ln out => lexP_sh d f _ ln out)
              · rw [if_neg h6, if_neg h6]
                rfl
/-- Tokens ahead change nothing, if they are not too many with them. -/
def PreR (pre : List Tk) : LxR → LxR → Prop
  | .error (ln, e), r => r = .error (ln, e) ∨ ∃ x, r = .error (x, 7)
  | .ok (ln, out), r => (pre.length + out.length ≤ 800 ∧ r = .ok (ln, pre ++ out)) ∨ (800 < pre.length + out.length ∧ ∃ x, r = .error (x, 7))
theorem push_pre {pre out : List Tk} {t : Tk} {ln : Int} {k : Int → List Tk → LxR} (h : ∀ ln out, pre.length + out.length ≤ 800 → PreR pre (k ln out) (k ln (pre ++ out))) (hm : ∀ ln out ln2 out2, k ln out = .ok (ln2, out2) → out.length ≤ out2.length) : PreR pre (pushT out t ln k) (pushT (pre ++ out) t ln k) := by
  unfold pushT
  rw [List.length_append]
  by_cases h1 : 800 < out.length + 1
  · rw [if_pos h1, if_pos (by omega)]
    exact .inl rfl
  · rw [if_neg h1]
    by_cases h2 : 800 < pre.length + out.length + 1
    · rw [if_pos h2]
      rcases hk : k ln (out ++ [t]) with ⟨x, e⟩ | ⟨ln2, out2⟩
      · exact .inr ⟨_, rfl⟩
      · have q := hm _ _ _ _ hk
        rw [List.length_append, List.length_singleton] at q
        exact .inr ⟨by omega, _, rfl⟩
    · rw [if_neg h2, List.append_assoc]
      exact h ln (out ++ [t]) (by rw [List.length_append, List.length_singleton]; omega)
theorem lexP_up : ∀ (f : Nat) (l : List Int) (ln : Int) (out : List Tk) (ln2 : Int) (out2 : List Tk), lexP f l ln out = .ok (ln2, out2) → out.length ≤ out2.length := by
  have hp : ∀ {out : List Tk} {t : Tk} {ln : Int} {k : Int → List Tk → LxR} {ln2 : Int} {out2 : List Tk}, (∀ ln out, k ln out = .ok (ln2, out2) → out.length ≤ out2.length) → pushT out t ln k = .ok (ln2, out2) → out.length ≤ out2.length := by
    intro out t ln k ln2 out2 h hk
    unfold pushT at hk
    split at hk
    · cases hk
    · have := h _ _ hk
      rw [List.length_append, List.length_singleton] at this
      omega
  intro f
  induction f with
  | zero => intro l ln out ln2 out2 h; cases h; exact Nat.le_refl _
  | succ f ih =>
    intro l ln out ln2 out2 h
    rcases l with _ | ⟨c, t⟩
    · cases h; exact Nat.le_refl _
    · rw [lexP] at h
      split at h
      · exact ih _ _ _ _ _ h
      · split at h
        · exact ih _ _ _ _ _ h
        · split at h
          · exact hp (fun ln out h => ih _ _ _ _ _ h) h
          · split at h
            · exact hp (fun ln out h => ih _ _ _ _ _ h) h
            · split at h
              · exact hp (fun ln out h => ih _ _ _ _ _ h) h
              · split at h
                · rcases hk : tokW (c :: t.takeWhile isWd) ln with _ | tk
                  · rw [hk] at h; cases h
                  · rw [hk] at h; exact hp (fun ln out h => ih _ _ _ _ _ h) h
                · cases h
theorem lexP_pre (pre : List Tk) : ∀ (f : Nat) (l : List Int) (ln : Int) (out : List Tk), pre.length + out.length ≤ 800 → PreR pre (lexP f l ln out) (lexP f l ln (pre ++ out))
  | 0, l, ln, out, h => .inl ⟨h, rfl⟩
  | f + 1, [], ln, out, h => .inl ⟨h, rfl⟩
  | f + 1, c :: t, ln, out, h => by
    rw [lexP, lexP]
    by_cases h1 : c = 32 ∨ c = 9
    · rw [if_pos h1, if_pos h1]; exact lexP_pre pre f t ln out h
    · rw [if_neg h1, if_neg h1]
      by_cases h2 : c = 35
      · rw [if_pos h2, if_pos h2]; exact lexP_pre pre f _ ln out h
      · rw [if_neg h2, if_neg h2]
        by_cases h3 : c = 58
        · rw [if_pos h3, if_pos h3]; exact push_pre (fun ln out h => lexP_pre pre f t ln out h) (fun ln out => lexP_up f t ln out)
        · rw [if_neg h3, if_neg h3]
          by_cases h4 : c = 44
          · rw [if_pos h4, if_pos h4]; exact push_pre (fun ln out h => lexP_pre pre f t ln out h) (fun ln out => lexP_up f t ln out)
          · rw [if_neg h4, if_neg h4]
            by_cases h5 : c = 10
            · rw [if_pos h5, if_pos h5]; exact push_pre (fun ln out h => lexP_pre pre f t ln out h) (fun ln out => lexP_up f t ln out)
            · rw [if_neg h5, if_neg h5]
              by_cases h6 : isWd c = true
              · rw [if_pos h6, if_pos h6]
                rcases tokW (c :: t.takeWhile isWd) ln with _ | tk
                · exact .inl rfl
                · exact push_pre (fun ln out h => lexP_pre pre f _ ln out h) (fun ln out => lexP_up f _ ln out)
              · rw [if_neg h6, if_neg h6]
                exact .inl rfl
end Go.Proofs.YtadmibfnjhockaaDoor
