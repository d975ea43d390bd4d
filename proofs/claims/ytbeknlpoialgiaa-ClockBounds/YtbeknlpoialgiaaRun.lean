/- What the document's 'run', 'Of' and 'On' do: the register behind bits, and so the very sums that package sum gives. Asked: at most 100000 bytes, lying in memory as said. -/
import Derived.Test.YtbeknlpoialgiaaRef
namespace Go.Proofs.Ytbeknlpoialgiaa
open Go.RowKit

theorem feed_bits (r o : Int) (h0 : 0 ≤ o) (h1 : o < 256) : (bitsOf o).foldl stp r = feed r o := by
  have e0 : o / 128 % 2 = o / 128 := by omega
  have e1 : o * 2 % 256 / 128 = o / 64 % 2 := by omega
  have e2 : o * 2 % 256 * 2 % 256 / 128 = o / 32 % 2 := by omega
  have e3 : o * 2 % 256 * 2 % 256 * 2 % 256 / 128 = o / 16 % 2 := by omega
  have e4 : o * 2 % 256 * 2 % 256 * 2 % 256 * 2 % 256 / 128 = o / 8 % 2 := by omega
  have e5 : o * 2 % 256 * 2 % 256 * 2 % 256 * 2 % 256 * 2 % 256 / 128 = o / 4 % 2 := by omega
  have e6 : o * 2 % 256 * 2 % 256 * 2 % 256 * 2 % 256 * 2 % 256 * 2 % 256 / 128 = o / 2 % 2 := by omega
  have e7 : o * 2 % 256 * 2 % 256 * 2 % 256 * 2 % 256 * 2 % 256 * 2 % 256 * 2 % 256 / 128 = o / 1 % 2 := by omega
  have hb : bitsOf o = [o / 128 % 2, o / 64 % 2, o / 32 % 2, o / 16 % 2, o / 8 % 2, o / 4 % 2, o / 2 % 2, o / 1 % 2] := rfl
  rw [hb]
  simp only [List.foldl, feed, fd]
  rw [e0, e1, e2, e3, e4, e5, e6, e7]

theorem all_foldl (l : List Int) (hl : ∀ n ∈ l, 0 ≤ n ∧ n < 256) : ∀ r, (allBits l).foldl stp r = l.foldl feed r := by
  induction l with
  | nil => intro r; rfl
  | cons a l ih =>
    intro r
    unfold allBits
    rw [List.flatMap_cons, List.foldl_append, feed_bits r a (hl a (by simp)).1 (hl a (by simp)).2, List.foldl_cons]
    exact ih (fun n hn => hl n (by simp [hn])) _

/-- A slice value's ints. -/
def IS (w : World) (a : Option Addr) (n : Nat) (l : List Int) : Prop :=
  l.length = n ∧ n ≤ 800000 ∧ (n = 0 ∨ ∃ b off, a = some ⟨b, off, none⟩ ∧ ∀ i, i < n → w.cell? ⟨b, off + i, none⟩ = some (.int .i64 (l.getD i 0)))

theorem IS.own {w : World} {N : Nat} {v : Value} {n : Nat} {l : List Int} (h : w.ownsRow N 3 1 v n (l.map (Value.int .i64))) (hn : n ≤ 800000) :
    ∃ a cap, v = .slice a n cap ∧ IS w a n l := by
  obtain ⟨hx, h2⟩ := h
  have hl : l.length = n := by simpa using hx
  rcases h2 with ⟨rfl, rfl⟩ | ⟨g, cap, cur, rfl, hb, hg, hc1, hc2, hs, ht⟩
  · exact ⟨none, 0, rfl, hl, hn, .inl rfl⟩
  · have hw : w.ownsRow N 3 1 (.slice (some ⟨g, 0, none⟩) n cap) n (l.map (Value.int .i64)) := ⟨hx, .inr ⟨g, cap, cur, rfl, hb, hg, hc1, hc2, hs, ht⟩⟩
    refine ⟨some ⟨g, 0, none⟩, cap, rfl, hl, hn, .inr ⟨g, 0, rfl, fun i hi => ?_⟩⟩
    rw [Nat.zero_add, hw.cellAt i (by omega)]
    subst hl
    simp [List.getD_eq_getElem?_getD, hi]

theorem cpl_lit (r : Int) : bits .xor .u32 4294967295 r = cpl r := rfl
theorem cpl_zero : cpl 0 = 4294967295 := by decide +kernel

end Go.Proofs.Ytbeknlpoialgiaa
