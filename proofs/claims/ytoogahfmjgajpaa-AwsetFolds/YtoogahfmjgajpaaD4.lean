/- The steps of the theorem of the set (layer 8). -/
import Derived.Test.YtoogahfmjgajpaaD1
import Derived.Test.YtoogahfmjgajpaaD2
import Derived.Test.YtoogahfmjgajpaaD3
import Derived.Test.YtoogahfmjgajpaaB5
namespace Go.Proofs.Ytoogahfmjgajpaa
open Go.RowKit Go.Lib
set_option linter.unusedVariables false
/-- A set that may be, and is not great. -/
structure ST (s : List En) (m : Nat) : Prop where
  may : mayS s = true
  len : s.length ≤ m
  few : ∀ x ∈ s, x.2.1.length ≤ m
theorem ST.nil : ST [] 0 := ⟨by decide, Nat.le_refl _, fun x hx => by simp at hx⟩
theorem ST.up {s : List En} {m : Nat} (h : ST s m) : ST s (m + 1) := ⟨h.may, Nat.le_succ_of_le h.len, fun x hx => Nat.le_succ_of_le (h.few x hx)⟩
theorem ST.mono {s : List En} {m m' : Nat} (h : ST s m) (hm : m ≤ m') : ST s m' := ⟨h.may, Nat.le_trans h.len hm, fun x hx => Nat.le_trans (h.few x hx) hm⟩
theorem ST.add {s : List En} {m : Nat} (h : ST s m) {k : ByteArray} (hk : mayK k = true) {d : Dot} (hd : mayD d = true) (c : List Int) (hm : m < 3000) : ST (addS s k d c) (m + 1) := by
  have hl := h.len
  exact ⟨mayS_add h.may hk hd c (by omega), by have := put_len s k (putD (leftD (getS s k) c) d); unfold addS; omega, few_add h.few k d c⟩
theorem ST.drop {s : List En} {m : Nat} (h : ST s m) {k : ByteArray} (hk : mayK k = true) (c : List Int) (hm : m < 3000) : ST (dropS s k c) (m + 1) := by
  have hl := h.len
  exact ⟨mayS_drop h.may hk c (by omega), by have := put_len s k (leftD (getS s k) c); unfold dropS; omega, few_drop h.few k c⟩
theorem may_key {x : Eff} (h : mayF x = true) : mayK (kOf x) = true := by
  unfold mayF at h
  rw [Bool.and_eq_true, decide_eq_true_iff] at h
  have q := h.1
  unfold mayK kOf
  rw [str_size]
  simp
  omega
/-- The set within an event. -/
def mid (o : Int) (es : List Evt) (i : Nat) (e : Evt) (k : Nat) : List En := (e.2.2.take k).foldl (stepX e o) (foldS o (es.take i))
theorem mid_zero (o : Int) (es : List Evt) (i : Nat) (e : Evt) : mid o es i e 0 = foldS o (es.take i) := by simp [mid]
theorem mid_step {o : Int} {es : List Evt} {i : Nat} {e : Evt} {k : Nat} {x : Eff} (hx : e.2.2[k]? = some x) : mid o es i e (k + 1) = stepX e o (mid o es i e k) x := by
  unfold mid
  rw [take_snocL hx, List.foldl_append]
  rfl
theorem mid_end {o : Int} {es : List Evt} {i : Nat} {e : Evt} (hx : es[i]? = some e) {k : Nat} (hk : e.2.2.length = k) : mid o es i e k = foldS o (es.take (i + 1)) := by
  unfold mid foldS
  rw [take_snocL hx, List.foldl_append, ← hk, List.take_length]
  rfl
theorem stepX_add {e : Evt} {o : Int} {s : List En} {x : Eff} (h2 : x.2.1 = o) (h1 : x.1 = 1) : stepX e o s x = addS s (kOf x) e.1 e.2.1 := by unfold stepX; rw [if_pos ⟨h2, h1⟩]
theorem stepX_drop {e : Evt} {o : Int} {s : List En} {x : Eff} (h2 : x.2.1 = o) (h1 : x.1 = 2) (hd : doesB e 1 o (kOf x) = false) : stepX e o s x = dropS s (kOf x) e.2.1 := by
  unfold stepX
  rw [if_neg (by rw [h1]; rintro ⟨_, h⟩; omega), if_pos ⟨h2, h1, hd⟩]
theorem stepX_no {e : Evt} {o : Int} {s : List En} {x : Eff} (h : x.2.1 ≠ o ∨ (x.1 ≠ 1 ∧ (x.1 ≠ 2 ∨ doesB e 1 o (kOf x) = true))) : stepX e o s x = s := by
  unfold stepX
  rw [if_neg, if_neg]
  · rintro ⟨h1, h2, h3⟩
    rcases h with h | ⟨_, h | h⟩
    · exact h h1
    · exact h h2
    · rw [h3] at h; cases h
  · rintro ⟨h1, h2⟩
    rcases h with h | ⟨h, _⟩
    · exact h h1
    · exact h h2
theorem keys_len : ∀ (l : List Evt), (∀ e ∈ l, mayE e = true) → (keysE l).length ≤ 16 * l.length
  | [], _ => by simp [keysE]
  | e :: l, h => by
    have ih := keys_len l (fun x hx => h x (List.mem_cons_of_mem _ hx))
    have q := (mayE_iff.1 (h e List.mem_cons_self)).2.1.2
    unfold keysE at *
    rw [List.flatMap_cons, List.length_append, List.length_map, List.length_cons]
    omega
theorem putAll_len (l : List Evt) (o : Int) : ∀ (ks : List ByteArray) (s : List En), (ks.foldl (fun w k => putS w k (liveL l o k)) s).length ≤ s.length + ks.length
  | [], s => by simp
  | k :: ks, s => by
    rw [List.foldl_cons, List.length_cons]
    have := putAll_len l o ks (putS s k (liveL l o k))
    have := put_len s k (liveL l o k)
    omega
/-- The keys of the first events, and of the first effects of the next one. -/
def kAt (l : List Evt) (i : Nat) (e : Evt) (k : Nat) : List ByteArray := keysE (l.take i) ++ (e.2.2.take k).map kOf
theorem kAt_step {l : List Evt} {o : Int} {i : Nat} {e : Evt} {k : Nat} {x : Eff} (hx : e.2.2[k]? = some x) : putAll l o (kAt l i e (k + 1)) = putS (putAll l o (kAt l i e k)) (kOf x) (liveL l o (kOf x)) := by
  unfold kAt putAll
  rw [take_snocL hx, List.map_append, ← List.append_assoc, List.foldl_append]
  rfl
theorem kAt_zero (l : List Evt) (o : Int) (i : Nat) (e : Evt) : putAll l o (kAt l i e 0) = putAll l o (keysE (l.take i)) := by simp [kAt]
theorem kAt_end {l : List Evt} {o : Int} {i : Nat} {e : Evt} (hx : l[i]? = some e) {k : Nat} (hk : e.2.2.length = k) : putAll l o (kAt l i e k) = putAll l o (keysE (l.take (i + 1))) := by
  unfold kAt
  rw [take_snocL hx, ← hk, List.take_length]
  unfold keysE
  rw [List.flatMap_append]
  simp
theorem kAt_len {l : List Evt} {o : Int} {i : Nat} {e : Evt} {k : Nat} (hm : ∀ e ∈ l, mayE e = true) (hi : i ≤ 14) (hk : k ≤ 16) : (putAll l o (kAt l i e k)).length ≤ 300 := by
  have h1 := putAll_len l o (kAt l i e k) []
  have h2 := keys_len (l.take i) (fun e he => hm e (List.mem_of_mem_take he))
  unfold kAt putAll at *
  rw [List.length_append, List.length_map, List.length_take] at h1
  rw [List.length_take] at h2
  simp only [List.length_nil] at h1
  omega
theorem kAt_cn (l : List Evt) (o : Int) (i : Nat) (e : Evt) (k : Nat) : SrtK (putAll l o (kAt l i e k)) := (putAll_cn l o _ _ Cn.nil).srt
theorem keys_cn (l : List Evt) (o : Int) (i : Nat) : SrtK (putAll l o (keysE (l.take i))) := (putAll_cn l o _ _ Cn.nil).srt
theorem liveL_len (l : List Evt) (o : Int) (k : ByteArray) : (liveL l o k).length ≤ l.length := by
  have := liveU_len l o k l.length
  unfold liveU at this
  rw [List.take_length] at this
  exact this
/-- An event's effects' room. -/
theorem eff_len {e : Evt} (h : mayE e = true) : e.2.2.length ≤ 16 := (mayE_iff.1 h).2.1.2
theorem eff_may {e : Evt} (h : mayE e = true) {i : Nat} {x : Eff} (hx : e.2.2[i]? = some x) : mayF x = true := (mayE_iff.1 h).2.2 x (List.mem_of_getElem? hx)
end Go.Proofs.Ytoogahfmjgajpaa
