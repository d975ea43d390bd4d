/- Bytes cut out of bytes lie in memory as the walks ask; sums of parts. -/
import Derived.Test.YtccpbkemiilgcaaRow
namespace Go.Proofs.Ytccpbkemiilgcaa
open Go.RowKit

theorem Ext.drew {a w : World} (h : Ext a w) : Ext a w.drew := fun p v hp => h p v hp
theorem PS.drew {w : World} {a : Option Addr} {n : Nat} {ps : List (List Int)} (h : PS w a n ps) : PS w.drew a n ps := h
theorem BS.drew {w : World} {a : Option Addr} {n : Nat} {l : List Int} (h : BS w a n l) : BS w.drew a n l := h

/-- What 'x[i:h]' leads to. -/
def slA (a : Option Addr) (cap i : Nat) : Option Addr := if cap = i then a else a.map (fun x => x.add i)

theorem BS.cut {w : World} {a : Option Addr} {len : Nat} {l : List Int} (hB : BS w a len l) (i h cap : Nat) (h1 : i ≤ h) (h2 : h ≤ len) (h3 : len ≤ cap) :
    BS w (slA a cap i) (h - i) ((l.take h).drop i) := by
  obtain ⟨g1, g2, g3, g4⟩ := hB
  refine ⟨by rw [List.length_drop, List.length_take]; omega, by omega, fun n hn => g3 n (List.mem_of_mem_take (List.mem_of_mem_drop hn)), ?_⟩
  rcases Nat.eq_zero_or_pos (h - i) with h0 | hp
  · exact .inl h0
  · rcases g4 with h0 | ⟨b, off, rfl, hc⟩
    · omega
    · refine .inr ⟨b, off + i, ?_, fun t ht => ?_⟩
      · unfold slA
        rw [if_neg (by omega)]
        by_cases hi : i = 0
        · subst hi; simp [Addr.add]
        · simp [Addr.add, hi]
      · have h4 : ((l.take h).drop i).getD t 0 = l.getD (i + t) 0 := by
          have h5 : i + t < h := by omega
          simp [List.getD_eq_getElem?_getD, h5]
        rw [h4, Nat.add_assoc]
        exact hc (i + t) (by omega)

theorem BS.head {w : World} {a : Option Addr} {len : Nat} {l : List Int} (hB : BS w a len l) (h : Nat) (h2 : h ≤ len) : BS w a h (l.take h) := by
  obtain ⟨g1, g2, g3, g4⟩ := hB
  refine ⟨by rw [List.length_take]; omega, by omega, fun n hn => g3 n (List.mem_of_mem_take hn), ?_⟩
  rcases Nat.eq_zero_or_pos h with h0 | hp
  · exact .inl h0
  · rcases g4 with h0 | ⟨b, off, rfl, hc⟩
    · omega
    · refine .inr ⟨b, off, rfl, fun t ht => ?_⟩
      have h4 : (l.take h).getD t 0 = l.getD t 0 := by simp [List.getD_eq_getElem?_getD, ht]
      rw [h4]
      exact hc t (by omega)

theorem of_three (l : List Int) (i k : Nat) (h : i ≤ k) : of [l.take i, (l.take k).drop i, l.drop k] = of [l] := by
  show on (on (on 0 (l.take i)) ((l.take k).drop i)) (l.drop k) = on 0 l
  rw [← on_append, ← on_append]
  congr 1
  have h1 : l.take i = (l.take k).take i := by rw [List.take_take, Nat.min_eq_left h]
  rw [h1, ← List.append_assoc, List.take_append_drop, List.take_append_drop]
theorem on_of (l : List Int) (k : Nat) : on (of [l.take k]) (l.drop k) = of [l] := by
  show on (on 0 (l.take k)) (l.drop k) = on 0 l
  rw [← on_append, List.take_append_drop]
theorem PS.none (w : World) : PS w Option.none 0 [] := ⟨rfl, by decide, .inl rfl⟩

theorem three_ps (w : World) (a : Option Addr) (len cap : Nat) (l : List Int) (hB : BS w a len l) (i k : Nat) (h1 : i ≤ k) (h2 : k ≤ len) (h3 : len ≤ cap) :
    PS (w.alloc (.cells #[.slice a i cap, .slice (slA a cap i) (k - i) (cap - i), .slice (slA a cap k) (len - k) (cap - k)] 45)) (some ⟨w.heap.size, 0, .none⟩) 3 [l.take i, (l.take k).drop i, l.drop k] := by
  refine PS.new _ _ rfl [(a, i, cap, l.take i), (slA a cap i, k - i, cap - i, (l.take k).drop i), (slA a cap k, len - k, cap - k, l.drop k)] _ rfl _ 3 rfl (by decide) _ rfl ?_
  intro q hq
  simp only [List.mem_cons, List.not_mem_nil, or_false] at hq
  rcases hq with rfl | rfl | rfl
  · exact hB.head i (by omega)
  · exact hB.cut i k cap h1 h2 h3
  · have := hB.cut k len cap h2 (Nat.le_refl _) h3
    rw [List.take_of_length_le (by rw [hB.1]; exact Nat.le_refl _)] at this
    exact this
theorem one_ps' (w : World) (a : Option Addr) (len cap : Nat) (l : List Int) (h : BS w a len l) (k : Nat) (hk : k ≤ len) :
    PS ((w.alloc (.cells #[.slice a len cap] 45)).alloc (.cells #[.slice a k cap] 45)) (some ⟨w.heap.size + 1, 0, Option.none⟩) 1 [l.take k] := by
  have h1 := one_ps (w.alloc (.cells #[.slice a len cap] 45)) a k cap (l.take k) ((h.head k hk).ext ((Ext.refl w).alloc _))
  simpa using h1
theorem two_bs (w : World) (a : Option Addr) (len cap : Nat) (l : List Int) (h : BS w a len l) (k : Nat) (hk : k ≤ len) (hc : len ≤ cap) :
    BS ((w.alloc (.cells #[.slice a len cap] 45)).alloc (.cells #[.slice a k cap] 45)) (slA a cap k) (len - k) (l.drop k) := by
  have h1 := (h.cut k len cap hk (Nat.le_refl _) hc).ext (((Ext.refl w).alloc (.cells #[.slice a len cap] 45)).alloc (.cells #[.slice a k cap] 45))
  rw [List.take_of_length_le (by rw [h.1]; exact Nat.le_refl _)] at h1
  exact h1
end Go.Proofs.Ytccpbkemiilgcaa
