/- What the tokens of a line are to one who reads them in their order (layer 15), in plain mathematics. -/
import Derived.Test.YtadmibfnjhockaaDoorNG
import Derived.Test.YtadmibfnjhockaaDoorN5
import Derived.Test.YtadmibfnjhockaaDoorN3
import Derived.Test.YtadmibfnjhockaaDoorN4
namespace Go.Proofs.YtadmibfnjhockaaDoor
set_option linter.unusedVariables false
/-- A word has no number: of what is read so far. -/
def Tn (out : List Tk) : Prop := ∀ t ∈ out, t.1 = 1 → t.2.2.1 = 0
def Tn0 : LxR → Prop
  | .error _ => True
  | .ok (_, out) => Tn out
theorem tokW_tn {l : List Int} {ln : Int} {tk : Tk} (h : tokW l ln = some tk) : tk.1 = 1 → tk.2.2.1 = 0 := by
  unfold tokW at h
  split at h
  · cases h; intro _; rfl
  · split at h
    · cases h; intro h; exact absurd (show (2 : Int) = 1 from h) (by decide)
    · cases h
theorem Tn0.push {out : List Tk} {tk : Tk} {ln : Int} {k : Int → List Tk → LxR} (h : ∀ ln out, Tn out → Tn0 (k ln out)) (ho : Tn out) (ht : tk.1 = 1 → tk.2.2.1 = 0) : Tn0 (pushT out tk ln k) := by
  unfold pushT
  split
  · trivial
  · exact h _ _ (fun t hm => (List.mem_append.1 hm).elim (ho t) (fun q => by rw [List.mem_singleton.1 q]; exact ht))
theorem lexP_tn : ∀ (f : Nat) (l : List Int) (ln : Int) (out : List Tk), Tn out → Tn0 (lexP f l ln out)
  | 0, l, ln, out, h => h
  | f + 1, [], ln, out, h => h
  | f + 1, c :: t, ln, out, h => by
    rw [lexP]
    split
    · exact lexP_tn f _ _ _ h
    split
    · exact lexP_tn f _ _ _ h
    split
    · exact Tn0.push (fun ln out h => lexP_tn f t ln out h) h (fun _ => rfl)
    split
    · exact Tn0.push (fun ln out h => lexP_tn f t ln out h) h (fun _ => rfl)
    split
    · exact Tn0.push (fun ln out h => lexP_tn f t ln out h) h (fun _ => rfl)
    split
    · split
      · trivial
      · rename_i htk
        exact Tn0.push (fun ln out h => lexP_tn f _ ln out h) h (tokW_tn htk)
    · trivial
def Num0 (l : List Tk) : Prop := ∀ (i : Nat) t, l[i]? = some t → t.1 = 1 → t.2.2.1 = 0
theorem Num0.drop {l : List Tk} (h : Num0 l) (k : Nat) : Num0 (l.drop k) := fun i t ht => h (k + i) t (by rw [List.getElem?_drop] at ht; exact ht)
theorem lexB_num0 {l : List Int} {ts : List Tk} {x e : Int} (h : lexB l = (ts, x, e)) : Num0 ts := by
  have nil : Num0 [] := fun i t ht => by simp at ht
  unfold lexB at h
  split at h
  · cases h; exact nil
  · have q := lexP_tn l.length l 1 [] (fun t ht => by cases ht)
    rcases hr : lexP l.length l 1 [] with ⟨y, e'⟩ | ⟨ln, A⟩
    · rw [hr] at h
      cases h
      exact nil
    · rw [hr] at h q
      unfold finL at h
      split at h
      · rename_i heq
        cases heq
      · rename_i heq
        cases heq
        split at h
        · cases h; exact nil
        · cases h
          intro i t ht hk
          rcases List.mem_append.1 (List.mem_of_getElem? ht) with hm | hm
          · exact q t hm hk
          · rw [List.mem_singleton.1 hm]
/-- A line's tokens l: the one at m stands behind them. -/
def Ln (l : List Tk) (m : Nat) : Prop := (∀ k, k ≤ m → ∃ u, l[k]? = some u) ∧ (∀ k : Int, 1 ≤ k → k ≤ 4 → isU l m k = false) ∧ Txt0 l ∧ Num0 l
theorem Ln.is {l : List Tk} {m i : Nat} (h : Ln l m) (hi : i ≤ m) {k : Int} (k1 : 1 ≤ k) (k4 : k ≤ 4) (hk : isU l i k = true) : i + 1 ≤ m := by
  rcases Nat.lt_or_ge i m with hlt | hge
  · omega
  · have e : i = m := by omega
    rw [e, h.2.1 k k1 k4] at hk
    cases hk
theorem Ln.nam {l : List Tk} {m i : Nat} (h : Ln l m) (hi : i ≤ m) (hn : namU l i = true) : i + 1 ≤ m := h.is hi (by decide) (by decide) (nam_is1 hn)
theorem Ln.txt {l : List Tk} {m i : Nat} (h : Ln l m) (hi : i ≤ m) (hn : txtU l i ≠ ⟨#[]⟩) : i + 1 ≤ m := by
  rcases hx : isU l i 1 with _ | _
  · exact absurd (txtU_far hx) hn
  · exact h.is hi (by decide) (by decide) hx
theorem Ln.get {l : List Tk} {m i : Nat} (h : Ln l m) (hi : i ≤ m) : ∃ kd tx nn ln, l[i]? = some (kd, tx, nn, ln) ∧ txtU l i = tx := by
  obtain ⟨⟨kd, tx, nn, ln⟩, hu⟩ := h.1 i hi
  refine ⟨kd, tx, nn, ln, hu, ?_⟩
  rw [txtU_at hu]
  split
  · rfl
  · rename_i hk
    exact (h.2.2.1 i _ hu hk).symm
theorem Ln.num {l : List Tk} {m i : Nat} (h : Ln l m) (hn : isU l i 1 = true) : numU l i = 0 := by
  unfold isU at hn
  unfold numU
  split at hn
  · rename_i t ht
    rw [decide_eq_true_iff] at hn
    exact h.2.2.2 i t ht hn
  · cases hn
theorem txt_num {l : List Tk} {i : Nat} (h : isU l i 2 = true) : txtU l i = ⟨#[]⟩ := by
  apply txtU_far
  unfold isU at h ⊢
  split at h
  · rw [decide_eq_true_iff] at h
    rw [decide_eq_false_iff_not]
    omega
  · cases h
theorem frmN {l : List Tk} {i : Nat} : frmU l i [110, 110] = if namU l i = true then (if namU l (i + 1) = true then 2 else 1) else 0 := by
  show (if namU l i = true then (if namU l (i + 1) = true then 0 + 1 else 0) + 1 else 0) = _
  rcases namU l (i + 1) with _ | _ <;> rcases namU l i with _ | _ <;> rfl
theorem ln_of {l : List Tk} (h : EndT l) (h0 : l ≠ []) (ht : Txt0 l) (hn : Num0 l) : Ln l (l.takeWhile inU).length := by
  obtain ⟨ha, u, hu, hf⟩ := agr_take (h.mem h0)
  exact ⟨fun k hk => by obtain ⟨u, hu, _⟩ := (dcl_at h h0).2.2 k hk; exact ⟨u, hu⟩, ha.2, ht, hn⟩
end Go.Proofs.YtadmibfnjhockaaDoor
