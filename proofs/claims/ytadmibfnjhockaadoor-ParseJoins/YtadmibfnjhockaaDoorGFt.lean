/- Rows of structs that lead elsewhere, told with where they lead (the blocks that a row's meaning hangs on): for lists of structs with slices in them. -/
import Derived.Test.YtadmibfnjhockaaDoorGAp
namespace Go.Proofs.YtadmibfnjhockaaDoor
open Go.RowKit Go.Lib
set_option linter.unusedVariables false
/-- The blocks that a thing hangs on. -/
abbrev FP := Nat → Prop
abbrev Row (k : Nat) := {r : List Value // r.length = k ∧ ∀ v ∈ r, v.oneCell' = true}
abbrev rv {k : Nat} (r : Row k) : List Value := r.1
theorem rv_len {k : Nat} (r : Row k) : (rv r).length = k := r.2.1
theorem rv_one {k : Nat} (r : Row k) : ∀ v ∈ rv r, v.oneCell' = true := r.2.2
abbrev Rf (α : Type) := World → List Value → α → FP → Prop
/-- It stands where its blocks stand, and they are there. -/
def StF {α : Type} (R : Rf α) : Prop := (∀ w w' r x F, R w r x F → (∀ g, F g → w'.heap[g]? = w.heap[g]?) → R w' r x F) ∧ ∀ w r x F, R w r x F → ∀ g, F g → g < w.heap.size
/-- Nothing that it hangs on may lie in a row of T from N on. -/
def Fok (N : Nat) (T : TypeId) (w : World) (F : FP) : Prop := ∀ g, F g → g < N ∨ ∃ C t fr, w.heap[g]? = some (.cells C t fr) ∧ t ≠ T
theorem Fok.mono {T : TypeId} {w : World} {F : FP} (h : Fok 0 T w F) (N : Nat) : Fok N T w F := fun g hg => (h g hg).imp (fun q => absurd q (Nat.not_lt_zero _)) id
theorem Fok.keep {N : Nat} {T : TypeId} {w w' : World} {F : FP} (h : Fok N T w F) (hk : ∀ g, F g → w'.heap[g]? = w.heap[g]?) : Fok N T w' F := fun g hg => by
  rcases h g hg with q | ⟨C, t, fr, q, r⟩
  · exact .inl q
  · exact .inr ⟨C, t, fr, by rw [hk g hg]; exact q, r⟩
section
variable {α : Type} {enc : α → List Value} {k : Nat} {T : TypeId}
theorem RS.keep {w w' : World} {a : Option Addr} {n : Nat} {l : List α} (h : RS enc k w a n l) (hk : 0 < n → ∀ b, a = some b → w'.heap[b.block]? = w.heap[b.block]?) : RS enc k w' a n l := by
  obtain ⟨h1, h2, h3⟩ := h
  refine ⟨h1, h2, ?_⟩
  rcases h3 with h0 | ⟨b, off, rfl, hc⟩
  · exact .inl h0
  · by_cases h0 : n = 0
    · exact .inl h0
    · refine .inr ⟨b, off, rfl, fun i x hx j v hv => ?_⟩
      rw [World.cell?_of_block (a := ⟨b, off + i * k + j, none⟩) (show w'.heap[b]? = w.heap[b]? from hk (by omega) ⟨b, off, none⟩ rfl)]
      exact hc i x hx j v hv
/-- A flat slice, and the block that it hangs on. -/
def FlF (w : World) (p : Option Addr) (n : Nat) (F : FP) : Prop := (∀ g, F g → g < w.heap.size) ∧ (0 < n → ∀ a, p = some a → F a.block)
theorem OwnR.flf {N : Nat} {w : World} {p : Option Addr} {n c : Nat} {l : List α} (h : OwnR enc k T N w (.slice p n c) l) {T2 : TypeId} (hne : T ≠ T2) (M : Nat) : ∃ F, FlF w p n F ∧ Fok M T2 w F := by
  rcases h.2 with ⟨hv, _⟩ | ⟨g, cap, cur, hv, hb, hg, _⟩
  · cases hv
    exact ⟨fun _ => False, ⟨fun _ h => h.elim, fun h => absurd h (by omega)⟩, fun _ h => h.elim⟩
  · cases hv
    have hs := (Array.getElem?_eq_some_iff.1 hg).1
    refine ⟨fun x => x = g, ⟨fun x hx => by rw [hx]; exact hs, fun _ a ha => by cases ha; rfl⟩, fun x hx => .inr ⟨cur, T, (0, 0), by rw [hx]; exact hg, hne⟩⟩
theorem OwnR.at {N : Nat} {w : World} {v : Value} {l : List α} (h : OwnR enc k T N w v l) {g : Nat} (hg : v.ownBlock = some g) : N ≤ g ∧ ∃ C fr, w.heap[g]? = some (.cells C T fr) := by
  rcases h.2 with ⟨rfl, _⟩ | ⟨g', cap, cur, rfl, hb, hgg, _⟩
  · simp [Value.ownBlock] at hg
  · simp [Value.ownBlock] at hg
    subst hg
    exact ⟨hb, _, _, hgg⟩
/-- What a grown row leaves of what does not lie in such rows. -/
theorem OwnR.others {N : Nat} {w w' : World} {v : Value} {l : List α} (h : OwnR enc k T N w v l) (hg : w.grownBy w' v.ownBlock) {F : FP} (hf : Fok N T w F) (hl : ∀ g, F g → g < w.heap.size) : ∀ g, F g → w'.heap[g]? = w.heap[g]? := fun g hg' => by
  refine hg.block g (hl g hg') (fun e => ?_)
  obtain ⟨h1, C, fr, h2⟩ := h.at e.symm
  rcases hf g hg' with q | ⟨C', t, fr', q, hne⟩
  · omega
  · rw [h2] at q
    cases q
    exact hne rfl
end
section
variable {α : Type} {k : Nat} {R : Rf α} {T : TypeId}
/-- A slice of such rows. -/
def SF (k : Nat) (R : Rf α) (w : World) (p : Option Addr) (n : Nat) (l : List α) : Prop := ∃ rows : List (Row k), RS rv k w p n rows ∧ rows.length = l.length ∧ ∀ (i : Nat) r x, rows[i]? = some r → l[i]? = some x → ∃ F, R w r.1 x F
theorem SF.below (hR : StF R) {w w' : World} {p : Option Addr} {n : Nat} {l : List α} (h : SF k R w p n l) (hb : Below w.heap.size w w') : SF k R w' p n l := by
  obtain ⟨rows, h1, h2, h3⟩ := h
  refine ⟨rows, h1.below hb, h2, fun i r x hr hx => ?_⟩
  obtain ⟨F, hF⟩ := h3 i r x hr hx
  exact ⟨F, hR.1 _ _ _ _ _ hF (fun g hg => hb.block g (hR.2 _ _ _ _ hF g hg))⟩
theorem SF.len {w : World} {p : Option Addr} {n : Nat} {l : List α} (h : SF k R w p n l) : l.length = n := by
  obtain ⟨rows, h1, h2, _⟩ := h
  rw [← h2]
  exact h1.1
theorem SF.max {w : World} {p : Option Addr} {n : Nat} {l : List α} (h : SF k R w p n l) : n ≤ maxLen := by
  obtain ⟨rows, h1, _⟩ := h
  exact h1.2.1
theorem SF.nil (w : World) (p : Option Addr) : SF k R w p 0 [] := ⟨[], RS.nil w p, rfl, fun i r x hr => by simp at hr⟩
theorem SF.addr {w : World} {p : Option Addr} {n : Nat} {l : List α} (h : SF k R w p n l) (h0 : 0 < n) : ∃ b off, p = some ⟨b, off, none⟩ := by
  obtain ⟨rows, h1, _⟩ := h
  rcases h1.2.2 with hz | ⟨b, off, ha, _⟩
  · omega
  · exact ⟨b, off, ha⟩
theorem SF.at {w : World} {b off n : Nat} {l : List α} (h : SF k R w (some ⟨b, off, none⟩) n l) (i : Nat) (hi : i < n) : ∃ (r : Row k) (x : α) (F : FP), l[i]? = some x ∧ R w r.1 x F ∧ ∀ j v, r.1[j]? = some v → w.cell? ⟨b, off + i * k + j, none⟩ = some v := by
  obtain ⟨rows, h1, h2, h3⟩ := h
  have hr : i < rows.length := by rw [h1.1]; exact hi
  have hx : i < l.length := by rw [← h2]; exact hr
  obtain ⟨F, hF⟩ := h3 i _ _ (List.getElem?_eq_getElem hr) (List.getElem?_eq_getElem hx)
  refine ⟨rows[i], l[i], F, List.getElem?_eq_getElem hx, hF, fun j v hv => ?_⟩
  rcases h1.2.2 with hz | ⟨b', off', ha, hc⟩
  · omega
  · cases ha
    exact hc i _ (List.getElem?_eq_getElem hr) j v hv
/-- Such rows of the call's own. -/
def OwnF (k : Nat) (R : Rf α) (T : TypeId) (N : Nat) (w : World) (v : Value) (l : List α) : Prop := ∃ rows : List (Row k), OwnR rv k T N w v rows ∧ rows.length = l.length ∧ ∀ (i : Nat) r x, rows[i]? = some r → l[i]? = some x → ∃ F, R w r.1 x F ∧ Fok 0 T w F
theorem OwnF.mono {N N' : Nat} {w : World} {v : Value} {l : List α} (h : OwnF k R T N w v l) (hN : N' ≤ N) : OwnF k R T N' w v l := by
  obtain ⟨rows, h1, h2, h3⟩ := h
  exact ⟨rows, h1.mono hN, h2, h3⟩
theorem OwnF.nil (N : Nat) (w : World) : OwnF k R T N w (.slice none 0 0) [] := ⟨[], OwnR.nil N w, rfl, fun i r x hr => by simp at hr⟩
theorem OwnF.made (w : World) (N g : Nat) (hg : g = w.heap.size) (hN : N ≤ w.heap.size) : OwnF k R T N (w.alloc (.cells #[] T)) (.slice (some ⟨g, 0, none⟩) 0 0) [] := ⟨[], OwnR.made w N g hg hN, rfl, fun i r x hr => by simp at hr⟩
theorem OwnF.below (hR : StF R) {N : Nat} {w w' : World} {v : Value} {l : List α} (h : OwnF k R T N w v l) (hb : Below w.heap.size w w') : OwnF k R T N w' v l := by
  obtain ⟨rows, h1, h2, h3⟩ := h
  refine ⟨rows, h1.below hb, h2, fun i r x hr hx => ?_⟩
  obtain ⟨F, hF, hf⟩ := h3 i r x hr hx
  have hk : ∀ g, F g → w'.heap[g]? = w.heap[g]? := fun g hg => hb.block g (hR.2 _ _ _ _ hF g hg)
  exact ⟨F, hR.1 _ _ _ _ _ hF hk, hf.keep hk⟩
theorem OwnF.open {N : Nat} {w : World} {v : Value} {l : List α} (h : OwnF k R T N w v l) : ∃ p c, v = .slice p l.length c ∧ SF k R w p l.length l ∧ CP p l.length c := by
  obtain ⟨rows, h1, h2, h3⟩ := h
  obtain ⟨p, c, hv, hr, hc⟩ := h1.open rv_len
  rw [h2] at hv hr hc
  exact ⟨p, c, hv, ⟨rows, hr, h2, fun i r x hr hx => by obtain ⟨F, hF, _⟩ := h3 i r x hr hx; exact ⟨F, hF⟩⟩, hc⟩
/-- Grown: what is behind. -/
theorem OwnF.app (hR : StF R) {N : Nat} {w w' : World} {v v' : Value} {l m : List α} {rows rows' : List (Row k)} (h1 : OwnR rv k T N w v rows) (h2 : rows.length = l.length) (h3 : ∀ (i : Nat) r x, rows[i]? = some r → l[i]? = some x → ∃ F, R w r.1 x F ∧ Fok 0 T w F) (k2 : rows'.length = m.length) (k3 : ∀ (i : Nat) r x, rows'[i]? = some r → m[i]? = some x → ∃ F, R w r.1 x F ∧ Fok 0 T w F) (hg : w.grownBy w' v.ownBlock) (ho : OwnR rv k T N w' v' (rows ++ rows')) : OwnF k R T N w' v' (l ++ m) := by
  have q : ∀ r x F, R w r x F → Fok 0 T w F → R w' r x F ∧ Fok 0 T w' F := fun r x F hF hf => by
    have hk := h1.others hg (hf.mono N) (hR.2 _ _ _ _ hF)
    exact ⟨hR.1 _ _ _ _ _ hF hk, hf.keep hk⟩
  refine ⟨rows ++ rows', ho, by rw [List.length_append, List.length_append, h2, k2], fun i r x hr hx => ?_⟩
  by_cases hi : i < rows.length
  · rw [List.getElem?_append_left hi] at hr
    rw [List.getElem?_append_left (by omega)] at hx
    obtain ⟨F, hF, hf⟩ := h3 i r x hr hx
    exact ⟨F, q _ _ _ hF hf⟩
  · rw [List.getElem?_append_right (by omega)] at hr
    rw [List.getElem?_append_right (by omega)] at hx
    rw [h2] at hr
    obtain ⟨F, hF, hf⟩ := k3 _ r x hr hx
    exact ⟨F, q _ _ _ hF hf⟩
/-- 'append(v, x)' of one row that lies in a new block. -/
theorem append_ft (hR : StF R) {w : World} {ops : Array Oper} {rest : List Oper} {o : Oper} {a : Act} {Q : Exit → Act → World → Prop} (hgd : o.guard = none) (s x : Operand) (t : TypeId)
    (ho : o.op = .call { callee := .builtin .append, args := #[s, x], argTypes := #[t, t] })
    (ht : Tryd.prog.underlying t = some (.slice T)) {z : Value} {by_ : Nat} (hi : (Tryd.prog.info? T).map (fun i => (i.zero, i.size, i.bytes)) = some (some z, k, by_)) (hz : z.cells.size = k) (hk0 : 0 < k) (hby : by_ ≤ 1000)
    (N : Nat) (v : Value) (l : List α) (hs : a.eval s = v) (hown : OwnF k R T N w v l) (p : Option Addr) (cap : Nat) (hx : a.eval x = .slice p 1 cap) (hp : p = none → cap = 0) (r : Row k) (hB : RS rv k w p 1 [r]) (y : α) (F : FP) (hF : R w r.1 y F) (hf : Fok 0 T w F)
    (hbig : l.length + 1 ≤ 1000000) (hN : N ≤ w.heap.size)
    (h : ∀ v' w', OwnF k R T N w' v' (l ++ [y]) → w.grownBy w' v.ownBlock → (∀ w0, Below N w0 w → Below N w0 w') → wpList Tryd.prog ops Q rest (a.put o.dst v') w') : wpList Tryd.prog ops Q (o :: rest) a w := by
  obtain ⟨rows, h1, h2, h3⟩ := hown
  refine append_rows hgd s x t ho ht hi hz hk0 hby rv_len rv_one N v rows [r] hs h1 p 1 cap hx hp hB (by rw [h2]; exact hbig) hN ?_
  intro v' w' ho' hg hb
  refine h v' w' (OwnF.app hR (m := [y]) h1 h2 h3 rfl (fun i r' x' hr hx' => ?_) hg ho') hg hb
  rcases i with _ | i
  · simp at hr hx'
    subst hr
    subst hx'
    exact ⟨F, hF, hf⟩
  · simp at hr
theorem append_ftg (hR : StF R) {w : World} {o : Oper} {a : Act} {K : Act → World → Prop} {Q : Exit → Act → World → Prop} (s x : Operand) (t : TypeId)
    (ho : o.op = .call { callee := .builtin .append, args := #[s, x], argTypes := #[t, t] })
    (ht : Tryd.prog.underlying t = some (.slice T)) {z : Value} {by_ : Nat} (hi : (Tryd.prog.info? T).map (fun i => (i.zero, i.size, i.bytes)) = some (some z, k, by_)) (hz : z.cells.size = k) (hk0 : 0 < k) (hby : by_ ≤ 1000)
    (N : Nat) (v : Value) (l : List α) (hs : a.eval s = v) (hown : OwnF k R T N w v l) (p : Option Addr) (cap : Nat) (hx : a.eval x = .slice p 1 cap) (hp : p = none → cap = 0) (r : Row k) (hB : RS rv k w p 1 [r]) (y : α) (F : FP) (hF : R w r.1 y F) (hf : Fok 0 T w F)
    (hbig : l.length + 1 ≤ 1000000) (hN : N ≤ w.heap.size)
    (h : ∀ v' w', OwnF k R T N w' v' (l ++ [y]) → w.grownBy w' v.ownBlock → (∀ w0, Below N w0 w → Below N w0 w') → K (a.put o.dst v') w') : Oper.wp Tryd.prog o a w K Q := by
  obtain ⟨rows, h1, h2, h3⟩ := hown
  refine append_rg s x t ho ht hi hz hk0 hby rv_len rv_one N v rows [r] hs h1 p 1 cap hx hp hB (by rw [h2]; exact hbig) hN ?_
  intro v' w' ho' hg hb
  refine h v' w' (OwnF.app hR (m := [y]) h1 h2 h3 rfl (fun i r' x' hr hx' => ?_) hg ho') hg hb
  rcases i with _ | i
  · simp at hr hx'
    subst hr
    subst hx'
    exact ⟨F, hF, hf⟩
  · simp at hr
end
end Go.Proofs.YtadmibfnjhockaaDoor
