/- What the document's 'run', 'Of' and 'On' do: the register behind bits, and so the very sums that package sum gives. Asked: at most 100000 bytes, lying in memory as said. -/
import Derived.Test.YtgmimneendnfgaaRef
namespace Go.Proofs.Ytgmimneendnfgaa
open Go.RowKit

theorem feed_bits (r o : Int) (h0 : 0 ≤ o) (h1 : o < 256) : (bitsOf o).foldl stp r = feed r o := by
  have e0 : o / 128 % 2 = o / 128 := by omega
  have e1 : o * 2 % 256 / 128 = o / 64 % 2 := by omega
  have e2 : o * 2 % 256 * 2 % 256 / 128 = o / 32 % 2 := by omega
  have e3 : o * 2 % 256 * 2 % 256 * 2 % 256 / 128 = o / 16 % 2 := by omega
  have e4 : o * 2 % 256 * 2 % 256 * 2 % 256 * 2 % 256 / 128 = o / 8 % 2 := by omega
  have e5 : o * 2 % 256 * 2 % 256 * 2 % 256 * 2 % 256 * 2 % 256 / 128 = o / 4 % 2 := by omega
  have e6 : o * 2 % 256 * 2 % 256 * 2 % 256 * 2 % 256 * 2 % 256 * 2 % 256 / 128 = o / 2 % 2 := by omega
  have e7 : o * 2 % 256 * 2 % 256 * 2 % 256 * 2 % 256 * 2 % 256 * 2 % 256 * 2 % 256 / 128 = o / 1 % 2 := by omega
  have hb : bitsOf o = [o / 128 % 2, o / 64 % 2, o / 32 % 2, o / 16 % 2, o / 8 % 2, o / 4 % 2, o / 2 % 2, o / 1 % 2] := rfl
  rw [hb]
  simp only [List.foldl, feed, fd]
  rw [e0, e1, e2, e3, e4, e5, e6, e7]

theorem all_foldl (l : List Int) (hl : ∀ n ∈ l, 0 ≤ n ∧ n < 256) : ∀ r, (allBits l).foldl stp r = l.foldl feed r := by
  induction l with
  | nil => intro r; rfl
  | cons a l ih =>
    intro r
    unfold allBits
    rw [List.flatMap_cons, List.foldl_append, feed_bits r a (hl a (by simp)).1 (hl a (by simp)).2, List.foldl_cons]
    exact ih (fun n hn => hl n (by simp [hn])) _

/-- A slice value's ints. -/
def IS (w : World) (a : Option Addr) (n : Nat) (l : List Int) : Prop :=
  l.length = n ∧ n ≤ 800000 ∧ (n = 0 ∨ ∃ b off, a = some ⟨b, off, none⟩ ∧ ∀ i, i < n → w.cell? ⟨b, off + i, none⟩ = some (.int .i64 (l.getD i 0)))

theorem IS.own {w : World} {N : Nat} {v : Value} {n : Nat} {l : List Int} (h : w.ownsRow N 3 1 v n (l.map (Value.int .i64))) (hn : n ≤ 800000) :
    ∃ a cap, v = .slice a n cap ∧ IS w a n l := by
  obtain ⟨hx, h2⟩ := h
  have hl : l.length = n := by simpa using hx
  rcases h2 with ⟨rfl, rfl⟩ | ⟨g, cap, cur, rfl, hb, hg, hc1, hc2, hs, ht⟩
  · exact ⟨none, 0, rfl, hl, hn, .inl rfl⟩
  · have hw : w.ownsRow N 3 1 (.slice (some ⟨g, 0, none⟩) n cap) n (l.map (Value.int .i64)) := ⟨hx, .inr ⟨g, cap, cur, rfl, hb, hg, hc1, hc2, hs, ht⟩⟩
    refine ⟨some ⟨g, 0, none⟩, cap, rfl, hl, hn, .inr ⟨g, 0, rfl, fun i hi => ?_⟩⟩
    rw [Nat.zero_add, hw.cellAt i (by omega)]
    subst hl
    simp [List.getD_eq_getElem?_getD, hi]

set_option maxHeartbeats 400000 in
theorem run_any (r : Int) (a : Option Addr) (n cap : Nat) (l : List Int) (w : World) (hr0 : 0 ≤ r) (hr : r < 4294967296) (hB : IS w a n l) :
    Calls Try.prog 40 #[.int .u32 r, .slice a n cap] w fun e w' => e = .returned (.int .u32 (l.foldl stp r)) ∧ w' = w := by
  obtain ⟨hlen, hmax, hcells⟩ := hB
  have hlen' := hide hlen
  have hcells' := hide hcells
  clear hlen hcells
  go_enter Try.func40, Try.ntmps40
  go_wp2
  go_loop [0, 5] (fun v i => ∃ (k : Nat) (x : Int), k ≤ n ∧ i = .int .i64 k ∧ 0 ≤ x ∧ x < 4294967296 ∧ v = .int .u32 x ∧ Hid ((l.drop k).foldl stp x = l.foldl stp r)) (fun _ i => n - (intOf i).toNat)
  case atStart => exact ⟨0, r, by omega, rfl, hr0, hr, rfl, rfl⟩
  case round =>
    obtain ⟨k, x, hk, rfl, hx0, hx, rfl, hH⟩ := hrel
    by_cases hlt : k < n
    · have hstep : Hid ((l.drop (k + 1)).foldl stp (stp x (l.getD k 0)) = l.foldl stp r) := by
        have h2 := hH.out
        rw [foldl_drop stp l k x (by rw [hlen'.out]; exact hlt)] at h2
        exact h2
      clear hH
      rcases hcells'.out with h0 | ⟨b, off, rfl, hc⟩
      · omega
      · have hck := hc k hlt
        obtain ⟨o, ho⟩ : ∃ o, o = l.getD k 0 := ⟨_, rfl⟩
        rw [← ho] at hck hstep
        clear hc hcells' ho
        by_cases ht : (x / 2147483648 != o) = true
        · have HS := hide (show stp x o = bits .xor .u32 (x * 2 % 4294967296) 79764919 from if_pos ht)
          go_wp2
          go_round
          case rel => exact ⟨k + 1, _, by omega, by go_num, (xor32_bd _ _).1, (xor32_bd _ _).2, rfl, by rw [← HS.out]; exact hstep⟩
          case measure => simp [intOf]; omega
        · have HS := hide (show stp x o = x * 2 % 4294967296 from if_neg ht)
          go_wp2
          go_round
          case rel => exact ⟨k + 1, _, by omega, by go_num, by omega, by omega, rfl, by rw [← HS.out]; exact hstep⟩
          case measure => simp [intOf]; omega
    · have hkl : k = n := by omega
      subst hkl
      have hd : l.drop k = [] := List.drop_of_length_le (by rw [hlen'.out]; exact Nat.le_refl _)
      have hE : Hid (x = l.foldl stp r) := by have h2 := hH.out; rw [hd] at h2; exact h2
      clear hd hH
      go_wp2
      go_ret
      exact ⟨ret_int hE.out, rfl⟩

theorem cpl_lit (r : Int) : bits .xor .u32 4294967295 r = cpl r := rfl
theorem cpl_zero : cpl 0 = 4294967295 := by decide +kernel

set_option maxHeartbeats 400000 in
theorem refOf_any (a : Option Addr) (len cap : Nat) (l : List Int) (w : World) (hB : BS w a len l) (h15 : len ≤ 100000) :
    Calls Try.prog 35 #[.slice a len cap] w fun e w' => e = .returned (.int .u32 (of [l])) ∧ Below w.heap.size w w' := by
  have hE : Hid (bits .xor .u32 4294967295 ((allBits l).foldl stp 4294967295) = of [l]) := by
    show _ = on 0 l
    unfold on
    rw [all_foldl l hB.2.2.1, cpl_zero]; rfl
  have HB := hide hB
  clear hB
  go_enter Try.func35, Try.ntmps35
  go_wp2_with fail
  refine (bits_any a len cap l w HB.out h15).mono ?_
  rintro e w1 ⟨v, rfl, hown, hb⟩
  obtain ⟨a1, c1, rfl, hI⟩ := IS.own hown (by omega)
  have HI := hide hI
  have Hb := hide hb
  clear hown hI hb
  go_wp2_with fail
  refine (run_any _ _ _ _ _ _ (by omega) (by omega) HI.out).mono ?_
  rintro e w2 ⟨rfl, rfl⟩
  go_wp2
  go_ret
  exact ⟨ret_int hE.out, Hb.out⟩

end Go.Proofs.Ytgmimneendnfgaa
