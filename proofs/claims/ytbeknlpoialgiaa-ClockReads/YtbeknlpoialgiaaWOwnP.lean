/- Texts in memory that the call has made ('OwnP'), and 'append' of one text as one law. -/
import Derived.Test.YtbeknlpoialgiaaWPacks
namespace Go.Proofs.Ytbeknlpoialgiaa
open Go.RowKit
set_option linter.unusedVariables false

/-- A slice value whose texts lie in blocks of the call's own. -/
def OwnP (N : Nat) (w : World) (v : Value) (qs : List (Value × List Int)) : Prop := w.ownsRow N 40 1 v qs.length (qs.map (·.1)) ∧ ∀ q ∈ qs, Own N w q.1 q.2 ∧ By q.2

theorem ownsRow_below {N : Nat} {e : TypeId} {w w' : World} {v : Value} {n : Nat} {xs : List Value} (h : w.ownsRow N e 1 v n xs) (hb : Below w.heap.size w w') : w'.ownsRow N e 1 v n xs := by
  refine ⟨h.1, ?_⟩
  rcases h.2 with hn | ⟨g, cap, cur, rfl, hb', hgg, rest⟩
  · exact .inl hn
  · refine .inr ⟨g, cap, cur, rfl, hb', ?_, rest⟩
    rw [hb.block g (Array.getElem?_eq_some_iff.1 hgg).1]
    exact hgg
theorem OwnP.below {N : Nat} {w w' : World} {v : Value} {qs : List (Value × List Int)} (h : OwnP N w v qs) (hb : Below w.heap.size w w') : OwnP N w' v qs :=
  ⟨ownsRow_below h.1 hb, fun q hq => ⟨(h.2 q hq).1.below hb, (h.2 q hq).2⟩⟩
theorem OwnP.alloc {N : Nat} {w : World} {v : Value} {qs : List (Value × List Int)} (h : OwnP N w v qs) (o : Obj) : OwnP N (w.alloc o) v qs :=
  ⟨World.ownsRow.alloc h.1 o, fun q hq => ⟨(h.2 q hq).1.alloc o, (h.2 q hq).2⟩⟩
theorem OwnP.nil (N : Nat) (w : World) : OwnP N w (.slice none 0 0) [] := ⟨⟨rfl, .inl ⟨rfl, rfl⟩⟩, fun q hq => by cases hq⟩
theorem OwnP.made (w : World) (N g : Nat) (hg : g = w.heap.size) (hN : N ≤ w.heap.size) : OwnP N (w.alloc (.cells #[] 40)) (.slice (some ⟨g, 0, none⟩) 0 0) [] := by
  subst hg; exact ⟨World.ownsRow_made w #[] 0 hN (by decide) rfl, fun q hq => by cases hq⟩
theorem apart_of {N M : Nat} {e f : TypeId} (hef : e ≠ f) {w : World} {v u : Value} {n m : Nat} {xs ys : List Value} (h : w.ownsRow N e 1 v n xs) (k : w.ownsRow M f 1 u m ys) : u.ownBlock = none ∨ u.ownBlock ≠ v.ownBlock := by
  rcases k.2 with ⟨rfl, _⟩ | ⟨g, cap, cur, rfl, _, hg, _⟩
  · exact .inl rfl
  · right
    rcases h.2 with ⟨rfl, _⟩ | ⟨g', cap', cur', rfl, _, hg', _⟩
    · intro hh; simp [Value.ownBlock] at hh
    · intro hh
      simp [Value.ownBlock] at hh
      subst hh
      rw [hg] at hg'
      simp at hg'
      exact hef hg'.2.symm
theorem OwnP.open {N : Nat} {w : World} {v : Value} {qs : List (Value × List Int)} (h : OwnP N w v qs) : ∃ p cap, v = .slice p qs.length cap ∧ PC w p qs.length (qs.map (·.2)) ∧ CP p qs.length cap := by
  have h0 := h.1
  obtain ⟨_, h2⟩ := h.1
  rcases h2 with ⟨rfl, h2⟩ | ⟨g, cap, cur, rfl, hb, hg, hc1, hc2, hs, ht⟩
  · exact ⟨none, 0, by rw [h2], ⟨by simp, by rw [h2]; decide, .inl h2⟩, by omega, by decide, fun _ => rfl⟩
  · refine ⟨some ⟨g, 0, none⟩, cap, rfl, ⟨by simp, by omega, .inr ⟨g, 0, rfl, fun i hi => ?_⟩⟩, hc1, hc2, fun h => by cases h⟩
    obtain ⟨o1, o2⟩ := h.2 qs[i] (List.getElem_mem hi)
    obtain ⟨p, c, hv, hbs, hcp⟩ := o1.open o2
    refine ⟨p, _, c, ?_, ?_, hcp⟩
    · rw [Nat.zero_add, World.ownsRow.cellAt h0 i (by omega), ← hv]
      simp [hi]
    · have : (qs.map (·.2)).getD i [] = qs[i].2 := by simp [List.getD_eq_getElem?_getD, hi]
      rw [this]; exact hbs

theorem Try.infoTx : (Try.prog.info? 40).map (fun i => (i.zero, i.size, i.bytes)) = some (some (.slice none 0 0), 1, 24) := by kernel_rfl

/-- 'append(v, t)', 'v' texts of the call's own, 't' one more. -/
theorem append_text {w : World} {ops : Array Oper} {rest : List Oper} {o : Oper} {a : Act} {Q : Exit → Act → World → Prop} (hgd : o.guard = none) (s x : Operand)
    (ho : o.op = .call { callee := .builtin .append, args := #[s, x], argTypes := #[57, 57] })
    (N : Nat) (v : Value) (qs : List (Value × List Int)) (u : Value) (t : List Int) (g : Nat) (hg : g = w.heap.size) (hs : a.eval s = v) (hown : OwnP N w v qs) (hu : Own N w u t) (ht : By t) (hx : a.eval x = .slice (some ⟨g, 0, none⟩) 1 1)
    (hbig : qs.length ≤ 1000000) (hN : N ≤ w.heap.size)
    (h : ∀ v' w', OwnP N w' v' (qs ++ [(u, t)]) → (∀ w0, Below N w0 w → Below N w0 w') → wpList Try.prog ops Q rest (a.put o.dst v') w') : wpList Try.prog ops Q (o :: rest) a (w.alloc (.cells #[u] 40)) := by
  subst hg
  obtain ⟨i0, hi, hz0, hz1, hz2⟩ := info_parts Try.infoTx
  obtain ⟨hr, he⟩ := hown
  have hone : u.oneCell' = true := by
    rcases hu.2 with ⟨rfl, _⟩ | ⟨_, _, _, rfl, _⟩ <;> rfl
  refine wpList_append_own (w.alloc (.cells #[u] 40)) hgd s x 57 ho N 40 i0 (.slice none 0 0) 1 24 Try.underlying57 hi hz0 hz1 hz2 rfl (by decide) v _ _ hs (World.ownsRow.alloc hr _) ⟨w.heap.size, 0, none⟩ 1 1 [u] hx rfl ?_ ?_ (by unfold maxLen; omega) (by omega) (by simp; omega) ?_
  · intro j u' hj
    match j, hj with
    | 0, hj => simp at hj; subst hj; simp [Addr.add]
  · intro u' hu'; simp at hu'; subst hu'; exact hone
  · intro v' w' h1 h2 _
    refine h v' w' ⟨by simpa using h1, fun q hq => ?_⟩ (fun w0 hb => (hb.alloc hN _).grown h2 (by simp; omega) (fun j hj => (World.ownsRow.lt hr j hj).1))
    have hq' : Own N w q.1 q.2 ∧ By q.2 := by
      rcases List.mem_append.1 hq with hq | hq
      · exact he q hq
      · simp at hq; subst hq; exact ⟨hu, ht⟩
    refine ⟨World.ownsRow.kept (World.ownsRow.alloc hq'.1 _) h2 ?_, hq'.2⟩
    exact apart_of (by decide) hr hq'.1
end Go.Proofs.Ytbeknlpoialgiaa
