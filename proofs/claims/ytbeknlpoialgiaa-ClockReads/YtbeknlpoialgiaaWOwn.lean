/- Bytes in memory that the call has made ('Own'), and 'append' onto them as one law. -/
import Derived.Test.YtbeknlpoialgiaaCut
import Derived.Test.YtbeknlpoialgiaaWMath
import Derived.Laws.AppendOwnNone
import Derived.Laws.BytesArg
namespace Go.Proofs.Ytbeknlpoialgiaa
open Go.RowKit

/-- A slice value whose bytes 'l' lie in a block of the call's own, at 'N' or above. -/
def Own (N : Nat) (w : World) (v : Value) (l : List Int) : Prop := w.ownsRow N 5 1 v l.length (l.map (Value.int .u8))
/-- What is known of a slice value's room. -/
def CP (p : Option Addr) (len cap : Nat) : Prop := len ≤ cap ∧ cap ≤ maxLen ∧ (p = none → cap = 0)

/-- To stop a walk at an operation: 'refine Stop.at ?_' in its arm; 'unfold Stop' behind it. -/
def Stop (p : Prop) : Prop := p
theorem Stop.at {p : Prop} (h : Stop p) : p := h

theorem Own.mono {N N' : Nat} {w : World} {v : Value} {l : List Int} (h : Own N w v l) (hN : N' ≤ N) : Own N' w v l := ⟨h.1, h.2.imp id fun ⟨g, cap, cur, h1, h2, h3⟩ => ⟨g, cap, cur, h1, Nat.le_trans hN h2, h3⟩⟩
theorem Own.alloc {N : Nat} {w : World} {v : Value} {l : List Int} (h : Own N w v l) (o : Obj) : Own N (w.alloc o) v l := World.ownsRow.alloc h o
theorem Own.drew {N : Nat} {w : World} {v : Value} {l : List Int} (h : Own N w v l) : Own N w.drew v l := World.ownsRow.drew h
theorem Own.below {N : Nat} {w w' : World} {v : Value} {l : List Int} (h : Own N w v l) (hb : Below w.heap.size w w') : Own N w' v l := by
  refine ⟨h.1, ?_⟩
  rcases h.2 with hn | ⟨g, cap, cur, rfl, hb', hgg, rest⟩
  · exact .inl hn
  · refine .inr ⟨g, cap, cur, rfl, hb', ?_, rest⟩
    rw [hb.block g (Array.getElem?_eq_some_iff.1 hgg).1]
    exact hgg
theorem Own.open {N : Nat} {w : World} {v : Value} {l : List Int} (h : Own N w v l) (hl : By l) : ∃ p cap, v = .slice p l.length cap ∧ BS w p l.length l ∧ CP p l.length cap := by
  have h0 := h
  obtain ⟨_, h2⟩ := h
  rcases h2 with ⟨rfl, h2⟩ | ⟨g, cap, cur, rfl, hb, hg, hc1, hc2, hs, ht⟩
  · exact ⟨none, 0, by rw [h2], ⟨rfl, by rw [h2]; decide, hl, .inl h2⟩, by omega, by decide, fun _ => rfl⟩
  · refine ⟨some ⟨g, 0, none⟩, cap, rfl, ⟨rfl, by omega, hl, .inr ⟨g, 0, rfl, fun i hi => ?_⟩⟩, hc1, hc2, fun h => by cases h⟩
    rw [Nat.zero_add, World.ownsRow.cellAt h0 i (by omega)]
    simp [List.getD_eq_getElem?_getD, hi]
theorem Own.made (w : World) (N g : Nat) (hg : g = w.heap.size) (hN : N ≤ w.heap.size) : Own N (w.alloc (.cells #[] 5)) (.slice (some ⟨g, 0, none⟩) 0 0) [] := by
  subst hg; exact World.ownsRow_made w #[] 0 hN (by decide) rfl
theorem Own.madeN (w : World) (N g : Nat) (hg : g = w.heap.size) (hN : N ≤ w.heap.size) (C : Array Value) (c : Nat) (hC : C.size = c) (hc : c ≤ maxLen) : Own N (w.alloc (.cells C 5)) (.slice (some ⟨g, 0, none⟩) 0 c) [] := by
  subst hg; exact World.ownsRow_made w C c hN hc (by omega)
theorem Own.lit (w : World) (N g : Nat) (hg : g = w.heap.size) (hN : N ≤ w.heap.size) (l : List Int) (C : Array Value) (hC : C = (l.map (Value.int .u8)).toArray) (n : Nat) (hn : n = l.length) (hl : l.length ≤ maxLen) :
    Own N (w.alloc (.cells C 5)) (.slice (some ⟨g, 0, none⟩) n n) l := by
  subst hn hC hg
  exact ⟨by simp, .inr ⟨w.heap.size, l.length, (l.map (Value.int .u8)).toArray, rfl, hN, heap_alloc_new w _, Nat.le_refl _, hl, by simp, by rw [List.take_of_length_le] <;> simp⟩⟩
theorem Own.one (w : World) (N g : Nat) (hg : g = w.heap.size) (hN : N ≤ w.heap.size) (x : Int) : Own N (w.alloc (.cells #[.int .u8 x] 5)) (.slice (some ⟨g, 0, none⟩) 1 1) [x] :=
  Own.lit w N g hg hN [x] _ rfl 1 rfl (by simp [maxLen])
theorem BS.below {w w' : World} {p : Option Addr} {len : Nat} {l : List Int} (h : BS w p len l) (hb : Below w.heap.size w w') : BS w' p len l := h.ext ((Ext.refl w).below hb)
theorem BS.alloc {w : World} {p : Option Addr} {len : Nat} {l : List Int} (h : BS w p len l) (o : Obj) : BS (w.alloc o) p len l := h.ext ((Ext.refl w).alloc o)
theorem BS.one (w : World) (g : Nat) (hg : g = w.heap.size) (x : Int) (h0 : 0 ≤ x) (h1 : x < 256) : BS (w.alloc (.cells #[.int .u8 x] 5)) (some ⟨g, 0, none⟩) 1 [x] :=
  BS.new w g hg [x] _ rfl _ 1 rfl (by decide) (By.cons h0 h1 By.nil)
theorem CP.some {a : Addr} {n c : Nat} (h : n ≤ c) (hc : c ≤ maxLen) : CP (some a) n c := ⟨h, hc, fun h => by cases h⟩
theorem BS.nil (w : World) (p : Option Addr) : BS w p 0 [] := ⟨rfl, by decide, By.nil, .inl rfl⟩

theorem Try.infoU8 : (Try.prog.info? 5).map (fun i => (i.zero, i.size, i.bytes)) = some (some (.int .u8 0), 1, 1) := by kernel_rfl

/-- 'append(v, x...)', 'v' the call's own. -/
theorem append_bytes {w : World} {ops : Array Oper} {rest : List Oper} {o : Oper} {a : Act} {Q : Exit → Act → World → Prop} (hgd : o.guard = none) (s x : Operand)
    (ho : o.op = .call { callee := .builtin .append, args := #[s, x], argTypes := #[40, 40] })
    (N : Nat) (v : Value) (l m : List Int) (hs : a.eval s = v) (hown : Own N w v l) (p : Option Addr) (len cap : Nat) (hx : a.eval x = .slice p len cap) (hp : p = none → cap = 0) (hB : BS w p len m)
    (hbig : l.length + m.length ≤ 140737488355328) (hN : N ≤ w.heap.size)
    (h : ∀ v' w', Own N w' v' (l ++ m) → w.grownBy w' v.ownBlock → (∀ w0, Below N w0 w → Below N w0 w') → wpList Try.prog ops Q rest (a.put o.dst v') w') : wpList Try.prog ops Q (o :: rest) a w := by
  obtain ⟨i0, hi, hz0, hz1, hz2⟩ := info_parts Try.infoU8
  obtain ⟨g1, g2, g3, g4⟩ := hB
  rcases p with _ | ad
  · have hc := hp rfl
    have hl0 : len = 0 := by
      rcases g4 with h0 | ⟨b, off, hh, _⟩
      · exact h0
      · cases hh
    subst hc hl0
    obtain rfl : m = [] := List.eq_nil_of_length_eq_zero g1
    refine wpList_append_own_none hgd s x _ ho N 5 i0 1 Try.underlying40 hi v _ _ hs hown hx ?_
    refine h v w (by rw [List.append_nil]; exact hown) ⟨rfl, rfl, rfl, Nat.le_refl _, fun _ _ _ => rfl⟩ (fun _ h => h)
  · refine wpList_append_own w hgd s x 40 ho N 5 i0 (.int .u8 0) 1 1 Try.underlying40 hi hz0 hz1 hz2 rfl (by decide) v _ _ hs hown ad len cap (m.map (Value.int .u8)) hx (by simp [g1]) ?_ ?_ (by rw [← g1]; unfold maxLen; omega) (by rw [← g1]; omega) hN ?_
    · intro j u hj
      rw [List.getElem?_map, Option.map_eq_some_iff] at hj
      obtain ⟨y, hy, rfl⟩ := hj
      obtain ⟨hj1, hx2⟩ := List.getElem?_eq_some_iff.1 hy
      rcases g4 with h0 | ⟨b, off, hh, hc⟩
      · omega
      · cases hh
        have h1 := hc j (by omega)
        have h2 : m.getD j 0 = y := by simp [List.getD_eq_getElem?_getD, hy]
        rw [h2] at h1
        have h3 : (⟨b, off, none⟩ : Addr).add j = ⟨b, off + j, none⟩ := by
          by_cases hj0 : j = 0
          · subst hj0; simp [Addr.add]
          · simp [Addr.add, hj0]
        rw [h3]
        exact h1
    · intro u hu
      rw [List.mem_map] at hu
      obtain ⟨y, _, rfl⟩ := hu
      rfl
    · intro v' w' h1 h2 _
      refine h v' w' ?_ h2 (fun w0 hb => hb.grown h2 hN (fun j hj => (World.ownsRow.lt hown j hj).1))
      have e : l.length + len = (l ++ m).length := by rw [List.length_append, g1]
      rw [e, ← List.map_append] at h1
      exact h1
end Go.Proofs.Ytbeknlpoialgiaa
