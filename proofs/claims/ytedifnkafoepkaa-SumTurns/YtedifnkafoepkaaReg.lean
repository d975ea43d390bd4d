/- The sums as registers of bits: the sum of bytes with their own sum behind them; the sum of bytes one of whose bits is turned. -/
import Derived.Test.YtedifnkafoepkaaAlg
namespace Go.Proofs.Ytedifnkafoepkaa

/-- Bit p of bytes, from each one's highest on. -/
def btI (l : List Int) (p : Nat) : Int := l.getD (p / 8) 0 / pw (p % 8) % 2
def bt (l : List Int) (p : Nat) : Bool := btI l p == 1

theorem stp_T (x : BitVec 32) (b : Int) (hb : b = 0 ∨ b = 1) : stp (x.toNat : Int) b = ((T (x ^^^ tb (b == 1))).toNat : Int) := by
  have hm : (x ^^^ tb (b == 1)).msb = (x.msb != (b == 1)) := by
    rcases hb with rfl | rfl
    · rw [BitVec.msb_xor]; cases x.msb <;> decide
    · rw [BitVec.msb_xor]; cases x.msb <;> decide
  have hs : (x ^^^ tb (b == 1)) <<< 1 = x <<< 1 := by
    rw [BitVec.shiftLeft_xor_distrib]
    have : (tb (b == 1)) <<< 1 = 0#32 := by rcases hb with rfl | rfl <;> decide
    rw [this, BitVec.xor_zero]
  have hd : (x.toNat : Int) / 2147483648 = if x.msb then 1 else 0 := by
    have h1 : x.msb = decide (2 ^ 31 ≤ x.toNat) := BitVec.msb_eq_decide x
    have h2 := x.isLt
    rw [h1]
    by_cases h : 2 ^ 31 ≤ x.toNat
    · rw [if_pos (by simpa using h)]; omega
    · rw [if_neg (by simpa using h)]; omega
  have hl : (x <<< 1).toNat = x.toNat * 2 % 4294967296 := by
    rw [BitVec.toNat_shiftLeft, Nat.shiftLeft_eq]
  have hlI : (x.toNat : Int) * (2 : Int) % (4294967296 : Int) = ((x <<< 1).toNat : Int) := by rw [hl]; omega
  unfold stp T
  rw [hm, hs, hd, hlI]
  have hp : bits .xor .u32 ((x <<< 1).toNat : Int) 79764919 = ((x <<< 1 ^^^ poly).toNat : Int) := by
    have := xor32_nat (x <<< 1).toNat 79764919 (x <<< 1).isLt (by decide)
    rw [BitVec.toNat_xor]
    exact this
  rcases hb with rfl | rfl
  · cases x.msb
    · simp
    · simpa using hp
  · cases x.msb
    · simpa using hp
    · simp

theorem take_RB (L : List Int) (hL : ∀ p, p < L.length → L.getD p 0 = 0 ∨ L.getD p 0 = 1) (x : BitVec 32) :
    ∀ n, n ≤ L.length → (L.take n).foldl stp (x.toNat : Int) = ((RB x (fun p => L.getD p 0 == 1) n).toNat : Int) := by
  intro n
  induction n with
  | zero => intro _; rfl
  | succ n ih =>
    intro hn
    have e : L.take (n + 1) = L.take n ++ [L.getD n 0] := by
      rw [List.take_succ_eq_append_getElem (by omega)]
      simp [List.getD_eq_getElem?_getD, show n < L.length from by omega]
    rw [e, List.foldl_append, ih (by omega)]
    exact stp_T _ _ (hL n (by omega))

theorem all_get (l : List Int) : ∀ p, p < 8 * l.length → (allBits l).getD p 0 = btI l p := by
  induction l with
  | nil => intro p hp; simp at hp
  | cons a l ih =>
    intro p hp
    have e : allBits (a :: l) = bitsOf a ++ allBits l := by unfold allBits; rw [List.flatMap_cons]
    rw [e]
    by_cases h8 : p < 8
    · have h1 : (bitsOf a ++ allBits l).getD p 0 = (bitsOf a).getD p 0 := by
        simp only [List.getD_eq_getElem?_getD]
        rw [List.getElem?_append_left (by rw [bits_len]; exact h8)]
      rw [h1]
      unfold btI
      rw [Nat.div_eq_of_lt h8, Nat.mod_eq_of_lt h8]
      simp [bitsOf, List.getD_eq_getElem?_getD, h8]
    · have h1 : (bitsOf a ++ allBits l).getD p 0 = (allBits l).getD (p - 8) 0 := by
        simp only [List.getD_eq_getElem?_getD]
        rw [List.getElem?_append_right (by rw [bits_len]; omega), bits_len]
      rw [h1, ih (p - 8) (by simp at hp; omega)]
      unfold btI
      have h2 : p / 8 = (p - 8) / 8 + 1 := by omega
      have h3 : p % 8 = (p - 8) % 8 := by omega
      rw [h2, h3]
      simp [List.getD_eq_getElem?_getD]

theorem RB_congr (x : BitVec 32) (g h : Nat → Bool) (n : Nat) (e : ∀ p, p < n → g p = h p) : RB x g n = RB x h n := by
  induction n with
  | zero => rfl
  | succ n ih => show T (RB x g n ^^^ tb (g n)) = T (RB x h n ^^^ tb (h n)); rw [ih (fun p hp => e p (by omega)), e n (by omega)]

theorem feed_RB (l : List Int) (hl : ∀ n ∈ l, 0 ≤ n ∧ n < 256) (x : BitVec 32) : l.foldl feed (x.toNat : Int) = ((RB x (bt l) (8 * l.length)).toNat : Int) := by
  rw [← all_foldl l hl]
  have hlen := all_len l
  have h1 := take_RB (allBits l) (fun p hp => by
    rw [all_get l p (by omega)]; unfold btI; omega) x (allBits l).length (Nat.le_refl _)
  rw [List.take_length] at h1
  rw [h1, hlen]
  congr 2
  exact RB_congr _ _ _ _ (fun p hp => by rw [all_get l p hp]; rfl)

theorem cpl_BV (x : BitVec 32) : cpl (x.toNat : Int) = ((4294967295#32 ^^^ x).toNat : Int) := by
  unfold cpl
  rw [show IntKind.u32.max = ((4294967295 : Nat) : Int) from by decide, xor32_nat _ _ (by decide) x.isLt, BitVec.toNat_xor]
  rfl
def reg (l : List Int) : BitVec 32 := RB 4294967295#32 (bt l) (8 * l.length)
theorem of_reg (l : List Int) (hl : ∀ n ∈ l, 0 ≤ n ∧ n < 256) : of [l] = cpl ((reg l).toNat : Int) := by
  show cpl (l.foldl feed (cpl 0)) = _
  rw [cpl_zero]
  exact congrArg cpl (feed_RB l hl 4294967295#32)

theorem cut_bits (s : Int) (j : Nat) (hj : j < 32) : btI [s / 16777216 % 256, s / 65536 % 256, s / 256 % 256, s % 256] j = s / 2 ^ (31 - j) % 2 := by
  have h : j = 0 ∨ j = 1 ∨ j = 2 ∨ j = 3 ∨ j = 4 ∨ j = 5 ∨ j = 6 ∨ j = 7 ∨ j = 8 ∨ j = 9 ∨ j = 10 ∨ j = 11 ∨ j = 12 ∨ j = 13 ∨ j = 14 ∨ j = 15 ∨ j = 16 ∨ j = 17 ∨ j = 18 ∨ j = 19 ∨ j = 20 ∨ j = 21 ∨ j = 22 ∨ j = 23 ∨ j = 24 ∨ j = 25 ∨ j = 26 ∨ j = 27 ∨ j = 28 ∨ j = 29 ∨ j = 30 ∨ j = 31 := by omega
  rcases h with rfl | rfl | rfl | rfl | rfl | rfl | rfl | rfl | rfl | rfl | rfl | rfl | rfl | rfl | rfl | rfl | rfl | rfl | rfl | rfl | rfl | rfl | rfl | rfl | rfl | rfl | rfl | rfl | rfl | rfl | rfl | rfl
  · show s / 16777216 % 256 / 128 % 2 = s / 2147483648 % 2; omega
  · show s / 16777216 % 256 / 64 % 2 = s / 1073741824 % 2; omega
  · show s / 16777216 % 256 / 32 % 2 = s / 536870912 % 2; omega
  · show s / 16777216 % 256 / 16 % 2 = s / 268435456 % 2; omega
  · show s / 16777216 % 256 / 8 % 2 = s / 134217728 % 2; omega
  · show s / 16777216 % 256 / 4 % 2 = s / 67108864 % 2; omega
  · show s / 16777216 % 256 / 2 % 2 = s / 33554432 % 2; omega
  · show s / 16777216 % 256 / 1 % 2 = s / 16777216 % 2; omega
  · show s / 65536 % 256 / 128 % 2 = s / 8388608 % 2; omega
  · show s / 65536 % 256 / 64 % 2 = s / 4194304 % 2; omega
  · show s / 65536 % 256 / 32 % 2 = s / 2097152 % 2; omega
  · show s / 65536 % 256 / 16 % 2 = s / 1048576 % 2; omega
  · show s / 65536 % 256 / 8 % 2 = s / 524288 % 2; omega
  · show s / 65536 % 256 / 4 % 2 = s / 262144 % 2; omega
  · show s / 65536 % 256 / 2 % 2 = s / 131072 % 2; omega
  · show s / 65536 % 256 / 1 % 2 = s / 65536 % 2; omega
  · show s / 256 % 256 / 128 % 2 = s / 32768 % 2; omega
  · show s / 256 % 256 / 64 % 2 = s / 16384 % 2; omega
  · show s / 256 % 256 / 32 % 2 = s / 8192 % 2; omega
  · show s / 256 % 256 / 16 % 2 = s / 4096 % 2; omega
  · show s / 256 % 256 / 8 % 2 = s / 2048 % 2; omega
  · show s / 256 % 256 / 4 % 2 = s / 1024 % 2; omega
  · show s / 256 % 256 / 2 % 2 = s / 512 % 2; omega
  · show s / 256 % 256 / 1 % 2 = s / 256 % 2; omega
  · show s % 256 / 128 % 2 = s / 128 % 2; omega
  · show s % 256 / 64 % 2 = s / 64 % 2; omega
  · show s % 256 / 32 % 2 = s / 32 % 2; omega
  · show s % 256 / 16 % 2 = s / 16 % 2; omega
  · show s % 256 / 8 % 2 = s / 8 % 2; omega
  · show s % 256 / 4 % 2 = s / 4 % 2; omega
  · show s % 256 / 2 % 2 = s / 2 % 2; omega
  · show s % 256 / 1 % 2 = s / 1 % 2; omega

theorem closes (l : List Int) (hl : ∀ n ∈ l, 0 ≤ n ∧ n < 256) :
    of [l, [of [l] / 16777216 % 256, of [l] / 65536 % 256, of [l] / 256 % 256, of [l] % 256]] = of [[0, 0, 0, 0]] := by
  obtain ⟨R, hR⟩ : ∃ R, R = reg l := ⟨_, rfl⟩
  obtain ⟨s, hs⟩ : ∃ s, s = of [l] := ⟨_, rfl⟩
  have hs1 : s = ((4294967295#32 ^^^ R).toNat : Int) := by rw [hs, of_reg l hl, cpl_BV, hR]
  have hc : cpl s = (R.toNat : Int) := by
    rw [hs, of_reg l hl, ← hR]
    have := R.isLt
    exact cpl_cpl _ (by omega) (by omega)
  show on (of [l]) _ = on 0 [0, 0, 0, 0]
  rw [← hs]
  unfold on
  have hm : ∀ n ∈ [s / 16777216 % 256, s / 65536 % 256, s / 256 % 256, s % 256], 0 ≤ n ∧ n < 256 := by
    intro n hn
    simp only [List.mem_cons, List.not_mem_nil, or_false] at hn
    omega
  rw [hc, cpl_zero]
  rw [feed_RB _ hm R, show (4294967295 : Int) = ((4294967295#32 : BitVec 32).toNat : Int) from rfl, feed_RB [0, 0, 0, 0] (by decide) 4294967295#32]
  congr 3
  show RB R _ 32 = RB _ _ 32
  rw [RB_word _ _ 32 (by omega), RB_none _ _ 32 (by decide)]
  have hW : WB (bt [s / 16777216 % 256, s / 65536 % 256, s / 256 % 256, s % 256]) 32 = 4294967295#32 ^^^ R := by
    apply BitVec.eq_of_getLsbD_eq
    intro i hi
    have h3 := WB_bit (bt [s / 16777216 % 256, s / 65536 % 256, s / 256 % 256, s % 256]) 32 (by omega) (31 - i) (by omega)
    rw [show 31 - (31 - i) = i from by omega] at h3
    rw [h3]
    unfold bt
    rw [cut_bits s (31 - i) (by omega), show 31 - (31 - i) = i from by omega, hs1]
    rw [show (BitVec.getLsbD (4294967295#32 ^^^ R) i) = Nat.testBit (4294967295#32 ^^^ R).toNat i from rfl, Nat.testBit_eq_decide_div_mod_eq]
    have h4 : (((4294967295#32 ^^^ R).toNat : Int) / 2 ^ i % 2 == 1) = decide ((4294967295#32 ^^^ R).toNat / 2 ^ i % 2 = 1) := by
      rw [Bool.eq_iff_iff]
      simp only [beq_iff_eq, decide_eq_true_eq]
      have h5 : ((4294967295#32 ^^^ R).toNat : Int) / 2 ^ i % 2 = (((4294967295#32 ^^^ R).toNat / 2 ^ i % 2 : Nat) : Int) := by
        simp
      rw [h5]; omega
    rw [h4]
    simp [show 31 - i < 32 from by omega]
  rw [hW, BitVec.xor_comm 4294967295#32 R, ← BitVec.xor_assoc, BitVec.xor_self, BitVec.zero_xor]
end Go.Proofs.Ytedifnkafoepkaa
