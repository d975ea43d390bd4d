/- Lines of tokens, step by step; what the tokens of a text are (layer 15), in plain mathematics. -/
import Derived.Test.YtadmibfnjhockaaDoorM5
import Derived.Test.YtadmibfnjhockaaDoorN4
namespace Go.Proofs.YtadmibfnjhockaaDoor
set_option linter.unusedVariables false
/-- What is no word has no text: of what is read so far. -/
def Tx (out : List Tk) : Prop := ∀ t ∈ out, t.1 ≠ 1 → t.2.1 = ⟨#[]⟩
def Tx0 : LxR → Prop
  | .error _ => True
  | .ok (_, out) => Tx out
theorem tokW_tx {l : List Int} {ln : Int} {tk : Tk} (h : tokW l ln = some tk) : tk.1 ≠ 1 → tk.2.1 = ⟨#[]⟩ := by
  unfold tokW at h
  split at h
  · cases h; intro h; exact absurd rfl h
  · split at h
    · cases h; intro _; rfl
    · cases h
theorem Tx0.push {out : List Tk} {tk : Tk} {ln : Int} {k : Int → List Tk → LxR} (h : ∀ ln out, Tx out → Tx0 (k ln out)) (ho : Tx out) (ht : tk.1 ≠ 1 → tk.2.1 = ⟨#[]⟩) : Tx0 (pushT out tk ln k) := by
  unfold pushT
  split
  · trivial
  · exact h _ _ (fun t hm => (List.mem_append.1 hm).elim (ho t) (fun q => by rw [List.mem_singleton.1 q]; exact ht))
theorem lexP_tx : ∀ (f : Nat) (l : List Int) (ln : Int) (out : List Tk), Tx out → Tx0 (lexP f l ln out)
  | 0, l, ln, out, h => h
  | f + 1, [], ln, out, h => h
  | f + 1, c :: t, ln, out, h => by
    rw [lexP]
    split
    · exact lexP_tx f _ _ _ h
    split
    · exact lexP_tx f _ _ _ h
    split
    · exact Tx0.push (fun ln out h => lexP_tx f t ln out h) h (fun _ => rfl)
    split
    · exact Tx0.push (fun ln out h => lexP_tx f t ln out h) h (fun _ => rfl)
    split
    · exact Tx0.push (fun ln out h => lexP_tx f t ln out h) h (fun _ => rfl)
    split
    · split
      · trivial
      · rename_i htk
        exact Tx0.push (fun ln out h => lexP_tx f _ ln out h) h (tokW_tx htk)
    · trivial
/-- What the tokens of a text are: their last one ends them. -/
def EndT (l : List Tk) : Prop := l = [] ∨ ∃ A t, l = A ++ [t] ∧ t.1 = 0
theorem lexB_ends {l : List Int} {ts : List Tk} {x e : Int} (h : lexB l = (ts, x, e)) : EndT ts ∧ Txt0 ts := by
  have nil : EndT [] ∧ Txt0 [] := ⟨.inl rfl, fun i t ht => by simp at ht⟩
  unfold lexB at h
  split at h
  · cases h; exact nil
  · have q := lexP_tx l.length l 1 [] (fun t ht => by cases ht)
    rcases hr : lexP l.length l 1 [] with ⟨y, e'⟩ | ⟨ln, A⟩
    · rw [hr] at h
      cases h
      exact nil
    · rw [hr] at h q
      unfold finL at h
      split at h
      · rename_i heq
        cases heq
      · rename_i heq
        cases heq
        split at h
        · cases h; exact nil
        · cases h
          refine ⟨.inr ⟨A, _, rfl, rfl⟩, fun i t ht hk => ?_⟩
          rcases List.mem_append.1 (List.mem_of_getElem? ht) with hm | hm
          · exact q t hm hk
          · rw [List.mem_singleton.1 hm]
theorem EndT.drop {l : List Tk} (h : EndT l) (k : Nat) : EndT (l.drop k) := by
  rcases h with rfl | ⟨A, t, rfl, ht⟩
  · left; simp
  · by_cases hk : k ≤ A.length
    · right
      exact ⟨A.drop k, t, by rw [List.drop_append_of_le_length hk], ht⟩
    · left
      exact List.drop_eq_nil_of_le (by simp; omega)
theorem EndT.mem {l : List Tk} (h : EndT l) (h0 : l ≠ []) : ∃ t, t ∈ l ∧ inU t = false := by
  rcases h with rfl | ⟨A, t, rfl, ht⟩
  · exact absurd rfl h0
  · exact ⟨t, by simp, by unfold inU; rw [ht]; rfl⟩
theorem Txt0.drop {l : List Tk} (h : Txt0 l) (k : Nat) : Txt0 (l.drop k) := fun i t ht => h (k + i) t (by rw [List.getElem?_drop] at ht; exact ht)
/-! Lines, step by step -/
def linS (l : List Tk) (out : List Dc) : Except (Int × Int) (List Dc) := linP l.length l out
theorem linS_nil (out : List Dc) : linS [] out = .ok out := rfl
theorem linS_end {t : Tk} (h : t.1 = 0) (r : List Tk) (out : List Dc) : linS (t :: r) out = .ok out := by
  show linP (r.length + 1) (t :: r) out = _
  rw [linP, if_pos h]
theorem linS_line {t : Tk} (h : t.1 = 5) (r : List Tk) (out : List Dc) : linS (t :: r) out = linS r out := by
  show linP (r.length + 1) (t :: r) out = _
  rw [linP, if_neg (by omega), if_pos h]
  rfl
theorem linS_big {t : Tk} (h0 : t.1 ≠ 0) (h5 : t.1 ≠ 5) (r : List Tk) {out : List Dc} (h : out.length = 60) : linS (t :: r) out = .error (t.2.2.2, 7) := by
  show linP (r.length + 1) (t :: r) out = _
  rw [linP, if_neg h0, if_neg h5, if_pos h]
theorem linS_bad {t : Tk} (h0 : t.1 ≠ 0) (h5 : t.1 ≠ 5) (r : List Tk) {out : List Dc} (h : out.length ≠ 60) {d : Dc} {at' : Nat} {ok : Bool} (hd : dclU ((t :: r).takeWhile inU) = (d, at', ok)) (hb : ok = false ∨ at' ≠ ((t :: r).takeWhile inU).length) {u : Tk} (hu : (t :: r)[at']? = some u) : linS (t :: r) out = .error (u.2.2.2, 2) := by
  show linP (r.length + 1) (t :: r) out = _
  rw [linP, if_neg h0, if_neg h5, if_neg h]
  simp only
  rw [hd, if_pos hb, hu]
  rfl
theorem linS_good {t : Tk} (h0 : t.1 ≠ 0) (h5 : t.1 ≠ 5) (r : List Tk) {out : List Dc} (h : out.length ≠ 60) {d : Dc} {at' : Nat} (hd : dclU ((t :: r).takeWhile inU) = (d, at', true)) (hb : at' = ((t :: r).takeWhile inU).length) : linS (t :: r) out = linS ((t :: r).drop at') (out ++ [lnD d t.2.2.2]) := by
  have hl : 0 < ((t :: r).takeWhile inU).length := by
    rw [List.takeWhile_cons, if_pos (by unfold inU; rw [decide_eq_true_iff]; exact ⟨h0, h5⟩)]
    simp
  show linP (r.length + 1) (t :: r) out = _
  rw [linP, if_neg h0, if_neg h5, if_neg h]
  simp only
  rw [hd, if_neg (by rintro (h | h); cases h; exact h hb), ← hb]
  unfold linS
  refine linP_fuel _ _ _ _ ?_ (Nat.le_refl _)
  rw [List.length_drop, List.length_cons]
  omega
/-- A line's tokens: where it ends, what is there. -/
theorem dcl_at {l : List Tk} (h : EndT l) (h0 : l ≠ []) : dclU l = dclU (l.takeWhile inU) ∧ (dclU l).2.1 ≤ (l.takeWhile inU).length ∧ ∀ i, i ≤ (l.takeWhile inU).length → ∃ u, l[i]? = some u ∧ ((isU l i 5 = true ∨ isU l i 0 = true) ↔ i = (l.takeWhile inU).length) := by
  obtain ⟨ha, u, hu, hf⟩ := agr_take (h.mem h0)
  have q := ha.dcl
  refine ⟨q.1, by rw [q.1]; exact q.2, fun i hi => ?_⟩
  by_cases e : i = (l.takeWhile inU).length
  · refine ⟨u, by rw [e]; exact hu, fun _ => e, fun _ => ?_⟩
    rw [e, isU_at hu, isU_at hu]
    unfold inU at hf
    rw [decide_eq_false_iff_not] at hf
    by_cases h5 : u.1 = 5
    · left; rw [decide_eq_true h5]
    · right; rw [decide_eq_true (by omega)]
  · have hlt : i < (l.takeWhile inU).length := by omega
    have e1 := ha.1 i hlt
    have e2 := List.getElem?_eq_getElem hlt
    have hin : inU (l.takeWhile inU)[i] = true := List.all_eq_true.1 (List.all_takeWhile (p := inU) (l := l)) _ (List.getElem_mem hlt)
    rw [e2] at e1
    refine ⟨_, e1, fun hh => ?_, fun hh => absurd hh e⟩
    unfold inU at hin
    rw [decide_eq_true_iff] at hin
    rw [isU_at e1, isU_at e1, decide_eq_true_iff, decide_eq_true_iff] at hh
    rcases hh with hh | hh
    · exact absurd hh hin.2
    · exact absurd hh hin.1
end Go.Proofs.YtadmibfnjhockaaDoor
