/- What 'noughtAhead' and 'value' do. -/
import Derived.Test.YtbeknlpoialgiaaWNum
namespace Go.Proofs.Ytbeknlpoialgiaa
open Go.RowKit
set_option linter.unusedVariables false

set_option maxHeartbeats 400000 in
theorem ahead_any (a : Option Addr) (n c : Nat) (l : List Int) (w : World) (hA : BS w a n l) :
    Calls Try.prog 55 #[.slice a n c] w fun e w' => e = .returned (.bool (decide (¬ nz l))) ∧ w' = w := by
  obtain ⟨g1, g2, g3, g4⟩ := hA
  unfold maxLen at g2
  by_cases hn : 0 < n
  · rcases g4 with h0 | ⟨b, o, rfl, hc⟩
    · omega
    have q := hc 0 hn
    rw [Nat.add_zero] at q
    have hz : Hid (decide (¬ nz l) = (l.getD 0 0 == 0)) := by
      rcases l with _ | ⟨x, r⟩
      · simp at g1; omega
      · simp [nz]; rfl
    generalize l.getD 0 0 = x at q hz
    clear hc g1 g3
    go_enter Try.func55, Try.ntmps55
    go_wp2
    go_ret
    exact ⟨ret_bool hz.out.symm, rfl⟩
  · have hn0 : n = 0 := by omega
    subst hn0
    obtain rfl : l = [] := List.eq_nil_of_length_eq_zero g1
    clear g3 g4 g1
    go_enter Try.func55, Try.ntmps55
    go_wp2
    go_ret
    exact ⟨ret_bool (by decide), rfl⟩

theorem val_take (l : List Int) (k : Nat) (h : k < l.length) : val (l.take (k + 1)) = val (l.take k) * 256 + l.getD k 0 := by
  rw [List.take_succ_eq_append_getElem h, val_snoc]
  simp [List.getD_eq_getElem?_getD, h]
theorem pow7 (k : Nat) (h : k ≤ 7) : (256 : Int) ^ k ≤ 72057594037927936 := by
  have h8 : k = 0 ∨ k = 1 ∨ k = 2 ∨ k = 3 ∨ k = 4 ∨ k = 5 ∨ k = 6 ∨ k = 7 := by omega
  rcases h8 with rfl | rfl | rfl | rfl | rfl | rfl | rfl | rfl <;> decide

theorem or64 (x y : Int) (hx0 : 0 ≤ x) (hx1 : x < 72057594037927936) (hy0 : 0 ≤ y) (hy1 : y < 256) : bits .or .u64 (x * 256) y = x * 256 + y := by
  obtain ⟨a, rfl⟩ := Int.eq_ofNat_of_zero_le hx0
  obtain ⟨b, rfl⟩ := Int.eq_ofNat_of_zero_le hy0
  have e : ((a : Int) * 256) = ((a * 256 : Nat) : Int) := by omega
  have h1 : (BitVec.ofInt 64 ((a * 256 : Nat) : Int)).toNat = a * 256 := by rw [BitVec.ofInt_natCast, BitVec.toNat_ofNat]; exact Nat.mod_eq_of_lt (by omega)
  have h2 : (BitVec.ofInt 64 (b : Int)).toNat = b := by rw [BitVec.ofInt_natCast, BitVec.toNat_ofNat]; exact Nat.mod_eq_of_lt (by omega)
  have h3 : a * 256 ||| b = a * 256 + b := by
    have := Nat.shiftLeft_add_eq_or_of_lt (i := 8) (b := b) (by omega) a
    rw [Nat.shiftLeft_eq] at this
    exact this.symm
  rw [e]
  show IntKind.u64.wrap ((BitVec.ofInt 64 ((a * 256 : Nat) : Int) ||| BitVec.ofInt 64 (b : Int)).toNat : Int) = _
  rw [BitVec.toNat_or, h1, h2, h3, IntKind.wrap_u64]
  omega

set_option maxHeartbeats 400000 in
theorem value_any (a : Option Addr) (n c : Nat) (l : List Int) (w : World) (hA : BS w a n l) (h8 : n ≤ 8) :
    Calls Try.prog 56 #[.slice a n c] w fun e w' => e = .returned (.int .u64 (val l)) ∧ w' = w := by
  obtain ⟨g1, g2, g3, g4⟩ := hA
  have G1 := hide g1
  have G3 := hide g3
  have G4 := hide g4
  clear g1 g2 g3 g4
  go_enter Try.func56, Try.ntmps56
  go_wp2
  go_loop [3, 8] (fun r i => ∃ (k : Nat) (x : Int), k ≤ n ∧ i = .int .i64 k ∧ r = .int .u64 x ∧ Hid (x = val (l.take k)) ∧ 0 ≤ x ∧ x < 18446744073709551616) (fun _ i => n - (intOf i).toNat)
  case atStart => exact ⟨0, 0, by omega, rfl, rfl, rfl, by omega, by omega⟩
  case round =>
    obtain ⟨k, x, hk, rfl, rfl, hx, hx0, hx1⟩ := hrel
    by_cases hlt : k < n
    · rcases G4.out with h0 | ⟨b, off, rfl, hc⟩
      · omega
      have q := hc k hlt
      have hb0 := (getD_byte G3.out k).1
      have hb1 := (getD_byte G3.out k).2
      have hv := hide (val_take l k (by rw [G1.out]; exact hlt))
      have hx7 : x < 72057594037927936 := by
        have h1 := (val_bd (l.take k) (By.take G3.out k)).2
        rw [← hx.out, List.length_take, G1.out] at h1
        have h2 := pow7 (min k n) (by omega)
        omega
      clear hc
      generalize l.getD k 0 = y at q hb0 hb1 hv
      go_wp2
      go_round
      case rel => exact ⟨k + 1, x * 256 + y, by omega, by go_num, by rw [or64 x y hx0 hx7 hb0 hb1], by rw [hx.out]; exact hv.out.symm, by omega, by omega⟩
      case measure => simp [intOf]; omega
    · have hkl : k = n := by omega
      subst hkl
      have hE : Hid (x = val l) := by have h2 := hx.out; rw [List.take_of_length_le (by rw [G1.out]; exact Nat.le_refl _)] at h2; exact h2
      go_wp2
      go_ret
      exact ⟨ret_int hE.out, rfl⟩
end Go.Proofs.Ytbeknlpoialgiaa
