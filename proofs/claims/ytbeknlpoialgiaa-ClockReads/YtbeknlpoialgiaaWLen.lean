/- math/bits.Len64: how many bits; in bytes, rounded up, it is 'nb'. -/
import Derived.Test.YtbeknlpoialgiaaWOwn
import Derived.Lib.Tables
namespace Go.Proofs.Ytbeknlpoialgiaa
open Go.RowKit

set_option maxRecDepth 100000 in
theorem tab_all : ∀ y : Fin 256, Lib.len8tab.data[y.1]!.toNat ≤ 8 ∧ (Lib.len8tab.data[y.1]!.toNat = 0 ↔ y.1 = 0) := by decide +kernel
set_option maxRecDepth 100000 in
theorem tab_size : Lib.len8tab.size = 256 := by decide +kernel
theorem tab_get (y : Nat) (h : y < Lib.len8tab.size) : (Lib.len8tab[y]'h).toNat ≤ 8 ∧ ((Lib.len8tab[y]'h).toNat = 0 ↔ y = 0) := by
  have h' : y < 256 := by rw [← tab_size]; exact h
  have := tab_all ⟨y, h'⟩
  have e : Lib.len8tab[y]'h = Lib.len8tab.data[y]! := by
    have hd : y < Lib.len8tab.data.size := h
    rw [getElem!_pos Lib.len8tab.data y hd]; rfl
  rw [e]; exact this
theorem nb_way (j : Nat) (x : Int) (hx : 0 ≤ x) (hj : j ≤ 7) (h1 : 1 ≤ x / 256 ^ j) (h2 : x / 256 ^ j < 256) : nb x = j + 1 := by
  have hp := pow_pos' j
  refine nb_is x (j + 1) hx (by omega) ?_ (.inr ?_)
  · rw [pow_s, Int.mul_comm]
    have := (Int.ediv_lt_iff_lt_mul hp).1 h2
    exact this
  · rw [Nat.add_sub_cancel]
    have := (Int.le_ediv_iff_mul_le hp).1 h1
    omega
theorem len_fin (j : Nat) (x y : Int) (h : y.toNat < Lib.len8tab.size) (hx : 0 ≤ x) (hj : j ≤ 7) (hy : y = x / 256 ^ j) (h2 : y < 256) (hlo : j = 0 ∨ 1 ≤ y) :
    ∃ t : Nat, (Lib.len8tab[y.toNat]'h).toNat = t ∧ t ≤ 8 ∧ (8 * (j : Int) + t + 7) / 8 = nb x := by
  obtain ⟨g1, g2⟩ := tab_get y.toNat h
  refine ⟨_, rfl, g1, ?_⟩
  by_cases h0 : 1 ≤ y
  · rw [nb_way j x hx hj (by omega) (by omega)]
    have : (Lib.len8tab[y.toNat]'h).toNat ≠ 0 := fun e => by have := g2.1 e; omega
    omega
  · have hj0 : j = 0 := by omega
    subst hj0
    simp at hy
    subst hy
    have hx0 : y = 0 := by omega
    have : (Lib.len8tab[y.toNat]'h).toNat = 0 := g2.2 (by omega)
    rw [this, hx0]
    decide
theorem wrap_a (k t : Nat) (hk : k ≤ 56) (ht : t ≤ 8) : wrap64 ((k : Int) + wrap64 (t : Int)) = (k : Int) + t := by unfold wrap64; omega
theorem wrap_b (t : Nat) (ht : t ≤ 8) : wrap64 (wrap64 (t : Int)) = (t : Int) := by unfold wrap64; omega

set_option maxRecDepth 100000 in
set_option maxHeartbeats 4000000 in
theorem len64_any (x : Int) (w : World) (h0 : 0 ≤ x) (h1 : x < 18446744073709551616) :
    Calls Try.prog 49 #[.int .u64 x] w fun e w' => ∃ L : Int, e = .returned (.int .i64 L) ∧ 0 ≤ L ∧ L ≤ 64 ∧ (L + 7) / 8 = nb x ∧ w' = w := by
  have ts := tab_size
  by_cases c1 : 4294967296 ≤ x
  · by_cases c2 : 65536 ≤ x / 4294967296
    · by_cases c3 : 256 ≤ x / 4294967296 / 65536
      · obtain ⟨t, ht, ht8, hn⟩ := len_fin 7 x (x / 4294967296 / 65536 / 256) (by omega) h0 (by omega) (by omega) (by omega) (.inr (by omega))
        have A := hide (And.intro ht hn)
        clear ht hn
        go_enter Try.func49, Try.ntmps49
        go_wp2
        go_ret
        obtain ⟨ht, hn⟩ := unhide A
        refine ⟨_, rfl, ?_⟩
        erw [ht, wrap_a 56 t (by omega) ht8]
        exact ⟨by omega, by omega, hn, rfl⟩
      · obtain ⟨t, ht, ht8, hn⟩ := len_fin 6 x (x / 4294967296 / 65536) (by omega) h0 (by omega) (by omega) (by omega) (.inr (by omega))
        have A := hide (And.intro ht hn)
        clear ht hn
        go_enter Try.func49, Try.ntmps49
        go_wp2
        go_ret
        obtain ⟨ht, hn⟩ := unhide A
        refine ⟨_, rfl, ?_⟩
        erw [ht, wrap_a 48 t (by omega) ht8]
        exact ⟨by omega, by omega, hn, rfl⟩
    · by_cases c3 : 256 ≤ x / 4294967296
      · obtain ⟨t, ht, ht8, hn⟩ := len_fin 5 x (x / 4294967296 / 256) (by omega) h0 (by omega) (by omega) (by omega) (.inr (by omega))
        have A := hide (And.intro ht hn)
        clear ht hn
        go_enter Try.func49, Try.ntmps49
        go_wp2
        go_ret
        obtain ⟨ht, hn⟩ := unhide A
        refine ⟨_, rfl, ?_⟩
        erw [ht, wrap_a 40 t (by omega) ht8]
        exact ⟨by omega, by omega, hn, rfl⟩
      · obtain ⟨t, ht, ht8, hn⟩ := len_fin 4 x (x / 4294967296) (by omega) h0 (by omega) (by omega) (by omega) (.inr (by omega))
        have A := hide (And.intro ht hn)
        clear ht hn
        go_enter Try.func49, Try.ntmps49
        go_wp2
        go_ret
        obtain ⟨ht, hn⟩ := unhide A
        refine ⟨_, rfl, ?_⟩
        erw [ht, wrap_a 32 t (by omega) ht8]
        exact ⟨by omega, by omega, hn, rfl⟩
  · by_cases c2 : 65536 ≤ x
    · by_cases c3 : 256 ≤ x / 65536
      · obtain ⟨t, ht, ht8, hn⟩ := len_fin 3 x (x / 65536 / 256) (by omega) h0 (by omega) (by omega) (by omega) (.inr (by omega))
        have A := hide (And.intro ht hn)
        clear ht hn
        go_enter Try.func49, Try.ntmps49
        go_wp2
        go_ret
        obtain ⟨ht, hn⟩ := unhide A
        refine ⟨_, rfl, ?_⟩
        erw [ht, wrap_a 24 t (by omega) ht8]
        exact ⟨by omega, by omega, hn, rfl⟩
      · obtain ⟨t, ht, ht8, hn⟩ := len_fin 2 x (x / 65536) (by omega) h0 (by omega) (by omega) (by omega) (.inr (by omega))
        have A := hide (And.intro ht hn)
        clear ht hn
        go_enter Try.func49, Try.ntmps49
        go_wp2
        go_ret
        obtain ⟨ht, hn⟩ := unhide A
        refine ⟨_, rfl, ?_⟩
        erw [ht, wrap_a 16 t (by omega) ht8]
        exact ⟨by omega, by omega, hn, rfl⟩
    · by_cases c3 : 256 ≤ x
      · obtain ⟨t, ht, ht8, hn⟩ := len_fin 1 x (x / 256) (by omega) h0 (by omega) (by omega) (by omega) (.inr (by omega))
        have A := hide (And.intro ht hn)
        clear ht hn
        go_enter Try.func49, Try.ntmps49
        go_wp2
        go_ret
        obtain ⟨ht, hn⟩ := unhide A
        refine ⟨_, rfl, ?_⟩
        erw [ht, wrap_a 8 t (by omega) ht8]
        exact ⟨by omega, by omega, hn, rfl⟩
      · obtain ⟨t, ht, ht8, hn⟩ := len_fin 0 x (x) (by omega) h0 (by omega) (by omega) (by omega) (.inl rfl)
        have A := hide (And.intro ht hn)
        clear ht hn
        go_enter Try.func49, Try.ntmps49
        go_wp2
        go_ret
        obtain ⟨ht, hn⟩ := unhide A
        refine ⟨_, rfl, ?_⟩
        erw [ht, wrap_b t ht8]
        exact ⟨by omega, by omega, by simpa using hn, rfl⟩
end Go.Proofs.Ytbeknlpoialgiaa
