/- How many tokens and lines a text has (layers 14 and 15), in plain mathematics; two texts have the lines of both. -/
import Derived.Test.YtadmibfnjhockaaDoorM3
namespace Go.Proofs.YtadmibfnjhockaaDoor
set_option linter.unusedVariables false
def feeds (l : List Int) : Int := (l.filter (fun x => decide (x = 10))).length
theorem feeds_cons (c : Int) (t : List Int) : feeds (c :: t) = (if c = 10 then 1 else 0) + feeds t := by
  unfold feeds
  rw [List.filter_cons]
  by_cases h : c = 10
  · rw [if_pos (by rw [h]; decide), if_pos h, List.length_cons]; omega
  · rw [if_neg (by simpa using h), if_neg h]; omega
theorem feeds_drop {p : Int → Bool} (hp : p 10 = false) (l : List Int) : feeds (l.dropWhile p) = feeds l := by
  induction l with
  | nil => rfl
  | cons c t ih =>
    rw [List.dropWhile_cons]
    split
    · rename_i h
      rw [ih, feeds_cons, if_neg (fun e => by rw [e, hp] at h; cases h)]
      omega
    · rfl
/-- What a run tells: no more tokens than bytes, a line more a line feed; too many tokens only of as many bytes. -/
def CntR (l : List Int) (ln : Int) (out : List Tk) : LxR → Prop
  | .error (x, e) => e = 7 → 800 < out.length + l.length
  | .ok (ln2, out2) => out2.length ≤ out.length + l.length ∧ ln2 = ln + feeds l
theorem CntR.less {l l' : List Int} {ln : Int} {out : List Tk} {r : LxR} (h : CntR l' ln out r) (hl : l'.length ≤ l.length) (hf : feeds l' = feeds l) : CntR l ln out r := by
  rcases r with ⟨x, e⟩ | ⟨ln2, out2⟩
  · exact fun q => by have := h q; omega
  · exact ⟨by have := h.1; omega, by rw [h.2, hf]⟩
theorem CntR.push {l t : List Int} {ln ln' : Int} {out : List Tk} {tk : Tk} {k : Int → List Tk → LxR} (h : CntR t ln' (out ++ [tk]) (k ln' (out ++ [tk]))) (hl : t.length + 1 ≤ l.length) (hf : ln' + feeds t = ln + feeds l) : CntR l ln out (pushT out tk ln' k) := by
  unfold pushT
  split
  · intro _; omega
  · rcases hk : k ln' (out ++ [tk]) with ⟨x, e⟩ | ⟨ln2, out2⟩
    · rw [hk] at h
      intro q
      have := h q
      rw [List.length_append, List.length_singleton] at this
      omega
    · rw [hk] at h
      have h1 := h.1
      rw [List.length_append, List.length_singleton] at h1
      exact ⟨by omega, by rw [h.2, hf]⟩
theorem lexP_cnt : ∀ (f : Nat) (l : List Int) (ln : Int) (out : List Tk), l.length ≤ f → CntR l ln out (lexP f l ln out)
  | 0, l, ln, out, hf => by
    have : l = [] := List.length_eq_zero_iff.1 (by omega)
    subst this
    exact ⟨by simp, by simp [feeds]⟩
  | f + 1, [], ln, out, hf => ⟨by simp, by simp [feeds]⟩
  | f + 1, c :: t, ln, out, hf => by
    simp only [List.length_cons] at hf
    have ht : t.length ≤ f := by omega
    have hd : ∀ p : Int → Bool, (t.dropWhile p).length ≤ t.length := fun p => dropW_len t
    rw [lexP]
    split
    · rename_i h1
      exact (lexP_cnt f t ln out ht).less (by simp) (by rw [feeds_cons, if_neg (by omega)]; omega)
    split
    · rename_i h2
      exact (lexP_cnt f _ ln out (Nat.le_trans (hd _) ht)).less (by have := hd (fun x => decide (x ≠ 10)); simp only [List.length_cons]; omega) (by rw [feeds_drop (by decide), feeds_cons, if_neg (by omega)]; omega)
    split
    · rename_i h3
      exact CntR.push (t := t) (lexP_cnt f t ln _ ht) (by simp) (by rw [feeds_cons, if_neg (by omega)]; omega)
    split
    · rename_i h4
      exact CntR.push (t := t) (lexP_cnt f t ln _ ht) (by simp) (by rw [feeds_cons, if_neg (by omega)]; omega)
    split
    · rename_i h5
      exact CntR.push (t := t) (lexP_cnt f t (ln + 1) _ ht) (by simp) (by rw [feeds_cons, if_pos h5]; omega)
    split
    · rename_i h5 h6
      split
      · intro q; cases q
      · exact CntR.push (t := t.dropWhile isWd) (lexP_cnt f _ ln _ (Nat.le_trans (hd _) ht)) (by have := hd isWd; simp only [List.length_cons]; omega) (by rw [feeds_drop isWd10, feeds_cons, if_neg h5]; omega)
    · intro q; cases q
/-- Tokens of a run end no text. -/
def Ne0 : LxR → Prop
  | .error _ => True
  | .ok (_, out) => ∀ t ∈ out, t.1 ≠ 0
theorem tokW_ne {l : List Int} {ln : Int} {tk : Tk} (h : tokW l ln = some tk) : tk.1 ≠ 0 := by
  unfold tokW at h
  split at h
  · cases h; exact (show (1 : Int) ≠ 0 by decide)
  · split at h
    · cases h; exact (show (2 : Int) ≠ 0 by decide)
    · cases h
theorem Ne0.push {out : List Tk} {tk : Tk} {ln : Int} {k : Int → List Tk → LxR} (h : ∀ ln out, (∀ t ∈ out, t.1 ≠ 0) → Ne0 (k ln out)) (ho : ∀ t ∈ out, t.1 ≠ 0) (ht : tk.1 ≠ 0) : Ne0 (pushT out tk ln k) := by
  unfold pushT
  split
  · trivial
  · exact h _ _ (fun t hm => (List.mem_append.1 hm).elim (ho t) (fun q => by rw [List.mem_singleton.1 q]; exact ht))
theorem lexP_ne : ∀ (f : Nat) (l : List Int) (ln : Int) (out : List Tk), (∀ t ∈ out, t.1 ≠ 0) → Ne0 (lexP f l ln out)
  | 0, l, ln, out, h => h
  | f + 1, [], ln, out, h => h
  | f + 1, c :: t, ln, out, h => by
    rw [lexP]
    split
    · exact lexP_ne f _ _ _ h
    split
    · exact lexP_ne f _ _ _ h
    split
    · exact Ne0.push (fun ln out h => lexP_ne f t ln out h) h (show (3 : Int) ≠ 0 by decide)
    split
    · exact Ne0.push (fun ln out h => lexP_ne f t ln out h) h (show (4 : Int) ≠ 0 by decide)
    split
    · exact Ne0.push (fun ln out h => lexP_ne f t ln out h) h (show (5 : Int) ≠ 0 by decide)
    split
    · split
      · trivial
      · rename_i htk
        exact Ne0.push (fun ln out h => lexP_ne f _ ln out h) h (tokW_ne htk)
    · trivial
/-- An error is one. -/
def ErR : LxR → Prop
  | .error (_, e) => e ≠ 0
  | .ok _ => True
theorem ErR.push {out : List Tk} {tk : Tk} {ln : Int} {k : Int → List Tk → LxR} (h : ∀ ln out, ErR (k ln out)) : ErR (pushT out tk ln k) := by
  unfold pushT
  split
  · exact (show (7 : Int) ≠ 0 by decide)
  · exact h _ _
theorem lexP_err : ∀ (f : Nat) (l : List Int) (ln : Int) (out : List Tk), ErR (lexP f l ln out)
  | 0, l, ln, out => trivial
  | f + 1, [], ln, out => trivial
  | f + 1, c :: t, ln, out => by
    rw [lexP]
    split
    · exact lexP_err f _ _ _
    split
    · exact lexP_err f _ _ _
    split
    · exact ErR.push (fun ln out => lexP_err f t ln out)
    split
    · exact ErR.push (fun ln out => lexP_err f t ln out)
    split
    · exact ErR.push (fun ln out => lexP_err f t ln out)
    split
    · split
      · exact (show (2 : Int) ≠ 0 by decide)
      · exact ErR.push (fun ln out => lexP_err f _ ln out)
    · exact (show (2 : Int) ≠ 0 by decide)
theorem linP_err : ∀ (f : Nat) (l : List Tk) (out : List Dc) (x e : Int), linP f l out = .error (x, e) → e ≠ 0
  | 0, l, out, x, e, h => by cases h
  | f + 1, [], out, x, e, h => by cases h
  | f + 1, t :: r, out, x, e, h => by
    rw [linP] at h
    split at h
    · cases h
    split at h
    · exact linP_err f _ _ _ _ h
    split at h
    · cases h; decide
    simp only at h
    split at h
    · cases h; decide
    exact linP_err f _ _ _ _ h
/-- The lines of tokens that a text has, or has not. -/
def linQ (r : List Tk × Int × Int) : List Dc × Int × Int := if r.2.2 ≠ 0 then ([], r.2.1, r.2.2) else match linP r.1.length r.1 [] with
  | .error (x, e) => ([], x, e)
  | .ok out => (out, 0, 0)
/-- The lines of a text. -/
def linB (l : List Int) : List Dc × Int × Int := linQ (lexB l)
/-- What a text with lines is. -/
theorem linB_ok {l : List Int} (hl : l.length ≤ 4096) {X : List Dc} {x : Int} (h : linB l = (X, x, 0)) : ∃ ln A, lexP l.length l 1 [] = .ok (ln, A) ∧ A.length + 1 ≤ 800 ∧ linP (A.length + 1) (A ++ [(0, ⟨#[]⟩, 0, ln)]) [] = .ok X := by
  have e0 : lexB l = finL (lexP l.length l 1 []) := by unfold lexB; rw [if_neg (by omega)]
  unfold linB at h
  rw [e0] at h
  rcases hr : lexP l.length l 1 [] with ⟨y, e⟩ | ⟨ln, A⟩
  · have hc := lexP_err l.length l 1 []
    rw [hr] at hc
    have hc2 : e ≠ 0 := hc
    have e2 : linQ ([], y, e) = ([], y, e) := if_pos hc2
    rw [hr, show finL (.error (y, e)) = ([], y, e) from rfl, e2] at h
    exact absurd (Prod.ext_iff.1 (Prod.ext_iff.1 h).2).2 hc2
  · rw [hr] at h
    by_cases h8 : 800 < A.length + 1
    · rw [show finL (.ok (ln, A)) = ([], ln, 7) from if_pos h8, show linQ ([], ln, 7) = ([], ln, 7) from if_pos (show (7 : Int) ≠ 0 by decide)] at h
      exact absurd (Prod.ext_iff.1 (Prod.ext_iff.1 h).2).2 (show (7 : Int) ≠ 0 by decide)
    · rw [show finL (.ok (ln, A)) = (A ++ [(0, ⟨#[]⟩, 0, ln)], 0, 0) from if_neg h8] at h
      have e2 : linQ (A ++ [(0, ⟨#[]⟩, 0, ln)], 0, 0) = _ := if_neg (show ¬ (0 : Int) ≠ 0 by decide)
      rw [e2] at h
      have e3 : (A ++ [((0, ⟨#[]⟩, 0, ln) : Tk)]).length = A.length + 1 := by simp
      refine ⟨ln, A, rfl, by omega, ?_⟩
      rw [← e3]
      rcases hq : linP (A ++ [((0, ⟨#[]⟩, 0, ln) : Tk)]).length (A ++ [(0, ⟨#[]⟩, 0, ln)]) [] with ⟨y, e⟩ | Y
      · simp only [hq] at h
        exact absurd (Prod.ext_iff.1 (Prod.ext_iff.1 h).2).2 (linP_err _ _ _ _ _ hq)
      · simp only [hq] at h
        have e4 : Y = X := (Prod.ext_iff.1 h).1
        rw [hq, e4]
end Go.Proofs.YtadmibfnjhockaaDoor
