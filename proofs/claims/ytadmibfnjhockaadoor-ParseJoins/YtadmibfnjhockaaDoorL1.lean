/- A word, or a number, alone is one token; two with a blank between are two (layer 14), in plain mathematics. -/
import Derived.Test.YtadmibfnjhockaaDoorL0
namespace Go.Proofs.YtadmibfnjhockaaDoor
set_option linter.unusedVariables false
theorem isWd_not {c : Int} (h : isWd c = true) : ¬ (c = 32 ∨ c = 9) ∧ c ≠ 35 ∧ c ≠ 58 ∧ c ≠ 44 ∧ c ≠ 10 := by
  unfold isWd isLt isDg at h
  simp only [Bool.or_eq_true, decide_eq_true_iff] at h
  omega
theorem digU_dg : ∀ (f n : Nat), ∀ c ∈ digU f n, isDg c = true
  | 0, n, c, h => by cases h
  | f + 1, n, c, h => by
    unfold digU at h
    split at h
    · rw [List.mem_singleton] at h
      subst h
      unfold isDg
      rw [decide_eq_true_iff]
      omega
    · rcases List.mem_append.1 h with h | h
      · exact digU_dg f _ c h
      · rw [List.mem_singleton] at h
        subst h
        unfold isDg
        rw [decide_eq_true_iff]
        omega
theorem digU_some (f n : Nat) (hf : 0 < f) : digU f n ≠ [] := by
  obtain ⟨f, rfl⟩ : ∃ f', f = f' + 1 := ⟨f - 1, by omega⟩
  unfold digU
  split
  · simp
  · simp
theorem dg_wd {c : Int} (h : isDg c = true) : isWd c = true := by
  unfold isWd
  rw [h]
  simp
theorem digs_wd (n : Int) : (∀ c ∈ digs n, isWd c = true) ∧ digs n ≠ [] := by
  unfold digs
  split
  · refine ⟨fun c hc => ?_, by simp⟩
    rcases List.mem_cons.1 hc with rfl | hc
    · decide
    · exact dg_wd (digU_dg _ _ c hc)
  · exact ⟨fun c hc => dg_wd (digU_dg _ _ c hc), digU_some 5 _ (by decide)⟩
/-- A word or a number: what its bytes are. -/
theorem both_wd {l : List Int} (h : numB l = true ∨ wordB l = true) : (∀ c ∈ l, isWd c = true) ∧ l ≠ [] ∧ ∀ ln, ∃ tk, tokW l ln = some tk := by
  have k : ∀ ln, ∃ tk, tokW l ln = some tk := fun ln => by
    unfold tokW
    rcases hw : wordB l with _ | _
    · rw [if_neg (by decide), if_pos (by rcases h with h | h; exact h; rw [hw] at h; cases h)]
      exact ⟨_, rfl⟩
    · rw [if_pos rfl]
      exact ⟨_, rfl⟩
  rcases h with h | h
  · unfold numB at h
    rw [decide_eq_true_iff] at h
    have q := digs_wd (valN l)
    rw [h.2.2] at q
    exact ⟨q.1, q.2, k⟩
  · match l, h with
    | [], h => cases h
    | c :: t, h =>
      unfold wordB at h
      simp only [Bool.and_eq_true, List.all_eq_true, Bool.or_eq_true] at h
      refine ⟨fun x hx => ?_, by simp, k⟩
      rcases List.mem_cons.1 hx with rfl | hx
      · unfold isWd
        rw [h.1.1]
        rfl
      · unfold isWd
        rcases h.1.2 x hx with q | q
        · rw [q]; rfl
        · rw [q]; simp
theorem takeW_all {p : Int → Bool} {l m : List Int} (h : ∀ c ∈ l, p c = true) (hm : m = [] ∨ ∃ c t, m = c :: t ∧ p c = false) : (l ++ m).takeWhile p = l ∧ (l ++ m).dropWhile p = m := by
  induction l with
  | nil =>
    rcases hm with rfl | ⟨c, t, rfl, hc⟩
    · simp
    · simp [hc]
  | cons c t ih =>
    have q := ih (fun x hx => h x (List.mem_cons_of_mem _ hx))
    simp only [List.cons_append, List.takeWhile_cons, List.dropWhile_cons, h c List.mem_cons_self, if_true]
    exact ⟨by rw [q.1], q.2⟩
theorem lexP_word {l m : List Int} (hl : ∀ c ∈ l, isWd c = true) (h0 : l ≠ []) (hm : m = [] ∨ ∃ c t, m = c :: t ∧ isWd c = false) {ln : Int} {tk : Tk} (ht : tokW l ln = some tk) (f : Nat) (out : List Tk) (ho : out.length ≤ 10) : lexP (f + 1) (l ++ m) ln out = lexP f m ln (out ++ [tk]) := by
  match l, h0 with
  | c :: t, _ =>
    have hc := hl c List.mem_cons_self
    have q := takeW_all (l := t) (m := m) (fun x hx => hl x (List.mem_cons_of_mem _ hx)) hm
    have n := isWd_not hc
    simp only [List.cons_append, lexP]
    rw [if_neg n.1, if_neg n.2.1, if_neg n.2.2.1, if_neg n.2.2.2.1, if_neg n.2.2.2.2, if_pos hc, q.1, ht, q.2]
    simp only [pushT]
    rw [if_neg (by omega)]
/-- The theorem of words. -/
theorem words14 {a b : List Int} (ha : numB a = true ∨ wordB a = true) (hb : numB b = true ∨ wordB b = true) (h1 : a.length ≤ 100) (h2 : b.length ≤ 100) : ∃ t1 t2 e1 e2, lexB a = ([t1, e1], 0, 0) ∧ lexB (a ++ 32 :: b) = ([t1, t2, e2], 0, 0) := by
  obtain ⟨a1, a2, a3⟩ := both_wd ha
  obtain ⟨b1, b2, b3⟩ := both_wd hb
  obtain ⟨t1, ht1⟩ := a3 1
  obtain ⟨t2, ht2⟩ := b3 1
  have la : 0 < a.length := List.length_pos_iff.2 a2
  have lb : 0 < b.length := List.length_pos_iff.2 b2
  refine ⟨t1, t2, (0, ⟨#[]⟩, 0, 1), (0, ⟨#[]⟩, 0, 1), ?_, ?_⟩
  · unfold lexB
    obtain ⟨f, hf⟩ : ∃ f, a.length = f + 1 := ⟨a.length - 1, by omega⟩
    have q := lexP_word a1 a2 (.inl rfl) ht1 f [] (by simp)
    rw [List.append_nil] at q
    rw [if_neg (by omega), hf, q]
    have e : lexP f [] 1 ([] ++ [t1]) = .ok (1, [t1]) := by cases f <;> rfl
    rw [e]
    rfl
  · unfold lexB
    have hl : (a ++ 32 :: b).length = a.length + b.length + 1 := by simp only [List.length_append, List.length_cons]; omega
    obtain ⟨f, hf⟩ : ∃ f, a.length + b.length = f + 1 + 1 := ⟨a.length + b.length - 2, by omega⟩
    have q := lexP_word (m := 32 :: b) a1 a2 (.inr ⟨32, b, rfl, by decide⟩) ht1 (f + 1 + 1) [] (by simp)
    rw [if_neg (by omega), hl, hf, q]
    have q2 := lexP_word b1 b2 (.inl rfl) ht2 f ([] ++ [t1]) (by simp)
    rw [List.append_nil] at q2
    have e0 : lexP (f + 1 + 1) (32 :: b) 1 ([] ++ [t1]) = lexP (f + 1) b 1 ([] ++ [t1]) := rfl
    rw [e0, q2]
    have e : lexP f [] 1 ([] ++ [t1] ++ [t2]) = .ok (1, [t1, t2]) := by cases f <;> rfl
    rw [e]
    rfl
end Go.Proofs.YtadmibfnjhockaaDoor
