/- What later events know, and the steps of layer 9's fold. -/
import Derived.Test.YtiodlpoeifmldaaZ2
import Derived.Test.YtiodlpoeifmldaaZ5
namespace Go.Proofs.Ytiodlpoeifmldaa
set_option linter.unusedVariables false
/-- The meet, plain. -/
def mt (c d : List Int) : List Int := pln (meetL c d)
theorem at5_mt (c d : List Int) (k : Nat) (hk : k < 5) : at5 (mt c d) k = min (at5 c k) (at5 d k) := by
  unfold mt
  rw [at5_pln _ rfl (meetL_bd c d), meetL_getD c d k hk]
theorem mt_may (c d : List Int) : mayC (mt c d) = true := mayC_pln _ (Nat.le_refl 5) (meetL_bd c d)
theorem wth_rfl (c : List Int) : wth c c := (wth_all c c).2 fun i _ => Int.le_refl _
theorem wth_tr {a b c : List Int} (h : wth a b) (k : wth b c) : wth a c := (wth_all a c).2 fun i hi => Int.le_trans ((wth_all a b).1 h i hi) ((wth_all b c).1 k i hi)
theorem wth_mtl (c d : List Int) : wth (mt c d) c := (wth_all _ _).2 fun i hi => by rw [at5_mt c d i hi]; exact Int.min_le_left _ _
theorem wth_mtr (c d : List Int) : wth (mt c d) d := (wth_all _ _).2 fun i hi => by rw [at5_mt c d i hi]; exact Int.min_le_right _ _
/-- The meet of a clock with the pasts of events. -/
def knL (c : List Int) (r : List Evt) : List Int := r.foldl (fun c f => mt c f.2.1) c
theorem knL_in : ∀ (r : List Evt) (c : List Int), wth (knL c r) c ∧ ∀ f ∈ r, wth (knL c r) f.2.1
  | [], c => ⟨wth_rfl c, fun f hf => by cases hf⟩
  | g :: r, c => by
    obtain ⟨h1, h2⟩ := knL_in r (mt c g.2.1)
    refine ⟨wth_tr h1 (wth_mtl c g.2.1), fun f hf => ?_⟩
    rcases List.mem_cons.1 hf with rfl | hf
    · exact wth_tr h1 (wth_mtr c f.2.1)
    · exact h2 f hf
theorem knL_may : ∀ (r : List Evt) (c : List Int), mayC c = true → mayC (knL c r) = true
  | [], c, h => h
  | g :: r, c, h => knL_may r (mt c g.2.1) (mt_may c g.2.1)
theorem knL_snoc (c : List Int) (r : List Evt) (f : Evt) : knL c (r ++ [f]) = mt (knL c r) f.2.1 := by
  unfold knL
  rw [List.foldl_append]
  rfl
/-- What all later ones know. -/
def knF (cl : Bool) (es : List Evt) (i : Nat) : Option (List Int) := if cl = true then (match es.drop (i + 1) with | [] => none | e :: r => some (knL e.2.1 r)) else none
theorem knF_ok {cl : Bool} {es : List Evt} {i : Nat} {c : List Int} (h : knF cl es i = some c) : ∀ e ∈ es.drop (i + 1), wth c e.2.1 := by
  unfold knF at h
  split at h
  · split at h
    · cases h
    · rename_i e r hd
      cases h
      obtain ⟨h1, h2⟩ := knL_in r e.2.1
      intro f hf
      rw [hd] at hf
      rcases List.mem_cons.1 hf with rfl | hf
      · exact h1
      · exact h2 f hf
  · cases h
theorem knF_off (es : List Evt) (i : Nat) : knF false es i = none := rfl
theorem knF_last {cl : Bool} {es : List Evt} {i : Nat} (h : es.length ≤ i + 1) : knF cl es i = none := by
  unfold knF
  rw [List.drop_eq_nil_of_le h]
  split <;> rfl
theorem knF_on {es : List Evt} {i : Nat} {e : Evt} (h : es[i + 1]? = some e) : knF true es i = some (knL e.2.1 (es.drop (i + 2))) := by
  unfold knF
  rw [if_pos rfl]
  obtain ⟨hl, rfl⟩ := List.getElem?_eq_some_iff.1 h
  rw [List.drop_eq_getElem_cons hl]
theorem drop_take_snoc {α : Type} {es : List α} {m j : Nat} {f : α} (hm : m ≤ j) (h : es[j]? = some f) : (es.drop m).take (j + 1 - m) = (es.drop m).take (j - m) ++ [f] := by
  have e : (es.drop m)[j - m]? = some f := by rw [List.getElem?_drop, show m + (j - m) = j by omega]; exact h
  rw [show j + 1 - m = j - m + 1 by omega]
  exact take_snocL e
/-- A set that may be, and is not great. -/
structure ST9 (s : List En) (m : Nat) : Prop where
  may : mayS9 s = true
  len : s.length ≤ m
  few : ∀ x ∈ s, x.2.1.length ≤ m ∧ x.2.2.length ≤ m
theorem ST9.nil : ST9 [] 0 := ⟨by decide, Nat.le_refl _, fun x hx => by simp at hx⟩
theorem ST9.mono {s : List En} {m m' : Nat} (h : ST9 s m) (hm : m ≤ m') : ST9 s m' := ⟨h.may, Nat.le_trans h.len hm, fun x hx => ⟨Nat.le_trans (h.few x hx).1 hm, Nat.le_trans (h.few x hx).2 hm⟩⟩
theorem ST9.up {s : List En} {m : Nat} (h : ST9 s m) : ST9 s (m + 1) := h.mono (Nat.le_succ _)
theorem ST9.drop {s : List En} {m : Nat} (h : ST9 s m) {k : ByteArray} (hk : mayK k = true) {d : Dot} (hd : mayD d = true) (c : List Int) (hm : m < 3000) : ST9 (dropP s k d c) (m + 1) := by
  have hl := h.len
  exact ⟨mayS9_drop h.may hk hd c (by omega), by have := putP_len s k ([], putD (leftD (getP s k).2 c) d); unfold dropP; omega, few9_drop h.few k d c⟩
theorem ST9.add {s : List En} {m : Nat} (h : ST9 s m) {k : ByteArray} (hk : mayK k = true) {d : Dot} (hd : mayD d = true) (c : List Int) (hm : m < 3000) : ST9 (addP s k d c) (m + 1) := by
  have hl := h.len
  refine ⟨mayS9_add h.may hk hd c (by omega), ?_, few9_add h.few k d c⟩
  unfold addP
  split
  · have := putP_len s k (putD (leftD (getP s k).1 c) d, (getP s k).2)
    omega
  · omega
theorem ST9.clean {s : List En} {m : Nat} (h : ST9 s m) (c : List Int) : ST9 (mapP (cleanF c) s) m := by
  refine ⟨mayS9_clean h.may c, ?_, fun x hx => ?_⟩
  · unfold mapP
    refine Nat.le_trans (List.length_filter_le _ _) ?_
    rw [List.length_map]
    exact h.len
  · obtain ⟨y, hy, rfl, _⟩ := mem_map9.1 hx
    exact ⟨(h.few y hy).1, Nat.le_trans (left_len _ _) (h.few y hy).2⟩
theorem may_key9 {x : Eff} (h : mayF x = true) : mayK (kOf x) = true := by
  unfold mayF at h
  rw [Bool.and_eq_true, decide_eq_true_iff] at h
  have q := h.1
  unfold mayK kOf
  rw [str_size]
  simp
  omega
/-- The set within an event. -/
def mid9 (o : Int) (S0 : List En) (e : Evt) (k : Nat) : List En := (e.2.2.take k).foldl (stepY e o) S0
theorem mid9_zero (o : Int) (S0 : List En) (e : Evt) : mid9 o S0 e 0 = S0 := by simp [mid9]
theorem mid9_step {o : Int} {S0 : List En} {e : Evt} {k : Nat} {x : Eff} (hx : e.2.2[k]? = some x) : mid9 o S0 e (k + 1) = stepY e o (mid9 o S0 e k) x := by
  unfold mid9
  rw [take_snocL hx, List.foldl_append]
  rfl
theorem mid9_end {o : Int} {S0 : List En} {e : Evt} {k : Nat} (hk : e.2.2.length = k) : mid9 o S0 e k = evY o S0 e := by
  unfold mid9 evY
  rw [← hk, List.take_length]
theorem stepY_drop {e : Evt} {o : Int} {s : List En} {x : Eff} (h2 : x.2.1 = o) (h1 : x.1 = 2) : stepY e o s x = dropP s (kOf x) e.1 e.2.1 := by unfold stepY; rw [if_pos ⟨h2, h1⟩]
theorem stepY_add {e : Evt} {o : Int} {s : List En} {x : Eff} (h2 : x.2.1 = o) (h1 : x.1 = 1) (hd : doesB e 2 o (kOf x) = false) : stepY e o s x = addP s (kOf x) e.1 e.2.1 := by
  unfold stepY
  rw [if_neg (by rw [h1]; rintro ⟨_, h⟩; omega), if_pos ⟨h2, h1, hd⟩]
theorem stepY_no {e : Evt} {o : Int} {s : List En} {x : Eff} (h : x.2.1 ≠ o ∨ (x.1 ≠ 2 ∧ (x.1 ≠ 1 ∨ doesB e 2 o (kOf x) = true))) : stepY e o s x = s := by
  unfold stepY
  rw [if_neg, if_neg]
  · rintro ⟨h1, h2, h3⟩
    rcases h with h | ⟨_, h | h⟩
    · exact h h1
    · exact h h2
    · rw [h3] at h; cases h
  · rintro ⟨h1, h2⟩
    rcases h with h | ⟨h, _⟩
    · exact h h1
    · exact h h2
theorem foldC_none {o : Int} {kn : Nat → Option (List Int)} {es : List Evt} {i : Nat} {e : Evt} (hx : es[i]? = some e) (hk : kn i = none) : foldC o kn es (i + 1) = evY o (foldC o kn es i) e := by
  rw [foldC, hx]
  simp only [hk]
theorem foldC_some {o : Int} {kn : Nat → Option (List Int)} {es : List Evt} {i : Nat} {e : Evt} {c : List Int} (hx : es[i]? = some e) (hk : kn i = some c) : foldC o kn es (i + 1) = mapP (cleanF c) (evY o (foldC o kn es i) e) := by
  rw [foldC, hx]
  simp only [hk]
/-! All keys, one behind the other -/
theorem keys9_len : ∀ (l : List Evt), (∀ e ∈ l, mayE e = true) → (keysE l).length ≤ 16 * l.length
  | [], _ => by simp [keysE]
  | e :: l, h => by
    have ih := keys9_len l (fun f hf => h f (List.mem_cons_of_mem _ hf))
    have he : e.2.2.length ≤ 16 := (mayE_iff.1 (h e List.mem_cons_self)).2.1.2
    unfold keysE at *
    rw [List.flatMap_cons, List.length_append, List.length_map, List.length_cons]
    omega
theorem putAll9_len (l : List Evt) (o : Int) : ∀ (ks : List ByteArray) (s : List En), (ks.foldl (fun w k => putP w k (liveL9 l o k, [])) s).length ≤ s.length + ks.length
  | [], s => by simp
  | k :: ks, s => by
    have ih := putAll9_len l o ks (putP s k (liveL9 l o k, []))
    have := putP_len s k (liveL9 l o k, [])
    rw [List.foldl_cons, List.length_cons]
    omega
def kAt9 (l : List Evt) (i : Nat) (e : Evt) (k : Nat) : List ByteArray := keysE (l.take i) ++ (e.2.2.take k).map kOf
theorem kAt9_step {l : List Evt} {o : Int} {i : Nat} {e : Evt} {k : Nat} {x : Eff} (hx : e.2.2[k]? = some x) : putAll9 l o (kAt9 l i e (k + 1)) = putP (putAll9 l o (kAt9 l i e k)) (kOf x) (liveL9 l o (kOf x), []) := by
  unfold kAt9 putAll9
  rw [take_snocL hx, List.map_append, ← List.append_assoc, List.foldl_append]
  rfl
theorem kAt9_zero (l : List Evt) (o : Int) (i : Nat) (e : Evt) : putAll9 l o (kAt9 l i e 0) = putAll9 l o (keysE (l.take i)) := by simp [kAt9]
theorem kAt9_end {l : List Evt} {o : Int} {i : Nat} {e : Evt} (hx : l[i]? = some e) {k : Nat} (hk : e.2.2.length = k) : putAll9 l o (kAt9 l i e k) = putAll9 l o (keysE (l.take (i + 1))) := by
  unfold kAt9
  rw [take_snocL hx, ← hk, List.take_length]
  unfold keysE
  rw [List.flatMap_append]
  simp
theorem kAt9_len {l : List Evt} {o : Int} {i : Nat} {e : Evt} {k : Nat} (hm : ∀ e ∈ l, mayE e = true) (hi : i ≤ 14) (hk : k ≤ 16) : (putAll9 l o (kAt9 l i e k)).length ≤ 300 := by
  have h1 := putAll9_len l o (kAt9 l i e k) []
  have h2 := keys9_len (l.take i) (fun f hf => hm f (List.mem_of_mem_take hf))
  have h3 : (kAt9 l i e k).length ≤ (keysE (l.take i)).length + k := by
    unfold kAt9
    rw [List.length_append, List.length_map, List.length_take]
    omega
  rw [List.length_take] at h2
  unfold putAll9
  simp only [List.length_nil] at h1
  omega
theorem kAt9_cn (l : List Evt) (o : Int) (i : Nat) (e : Evt) (k : Nat) : SrtK (putAll9 l o (kAt9 l i e k)) := (putAll9_cp l o _ _ Cp.nil).srt
theorem liveL9_len (l : List Evt) (o : Int) (k : ByteArray) : (liveL9 l o k).length ≤ l.length := by
  unfold liveL9
  have h1 := foldl_putD_len ((l.filter (live9B l o k)).map (·.1)) []
  have h2 : (l.filter (live9B l o k)).length ≤ l.length := List.length_filter_le _ _
  rw [List.length_map] at h1
  unfold ordD
  simp only [List.length_nil] at h1
  omega
theorem eff9_len {e : Evt} (h : mayE e = true) : e.2.2.length ≤ 16 := (mayE_iff.1 h).2.1.2
theorem eff9_may {e : Evt} (h : mayE e = true) {i : Nat} {x : Eff} (hx : e.2.2[i]? = some x) : mayF x = true := (mayE_iff.1 h).2.2 x (List.mem_of_getElem? hx)
end Go.Proofs.Ytiodlpoeifmldaa
