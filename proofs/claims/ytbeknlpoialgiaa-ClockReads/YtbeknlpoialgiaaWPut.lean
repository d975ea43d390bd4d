/- What 'Num' does, the program's and the document's: the number's bytes, in new memory. -/
import Derived.Test.YtbeknlpoialgiaaWVal
namespace Go.Proofs.Ytbeknlpoialgiaa
open Go.RowKit
set_option linter.unusedVariables false

theorem be_step (x : Int) (k : Nat) (h0 : 0 ≤ x) : be (k + 1) x = x / 2 ^ (8 * k) % 256 :: be k x := by
  have : (2 : Int) ^ (8 * k) = 256 ^ k := by rw [Int.pow_mul]; rfl
  rw [this]; rfl
theorem make_cap (c : Nat) (hc : c ≤ 1000000) : ∃ C : Array Value, C.size = c ∧ ∀ w : World, (Instr.makeSlice 40 (.int .i64 0) (.int .i64 (c : Int))).run Try.prog w = .ok (.slice (some ⟨w.heap.size, 0, none⟩) 0 c) (w.alloc (.cells C 5)) := by
  obtain ⟨i0, hi, hz0, hz1, hz2⟩ := info_parts Try.infoU8
  refine ⟨madeCells (Value.int .u8 0).cells (c * i0.size), ?_, fun w => ?_⟩
  · rw [size_madeCells, hz1]; simp
  · have h := run_make (P := Try.prog) w 40 5 i0 (.int .u8 0) Try.underlying40 hi hz0 .i64 .i64 0 (c : Int) (by omega) (by omega) (by rw [hz2]; omega) (by omega)
    simpa using h

set_option maxHeartbeats 1000000 in
set_option maxRecDepth 100000 in
theorem num_any (x : Int) (w : World) (h0 : 0 ≤ x) (h1 : x < 18446744073709551616) :
    Calls Try.prog 41 #[.int .u64 x] w fun e w' => ∃ v, e = .returned v ∧ Own w.heap.size w' v (num x) ∧ Below w.heap.size w w' := by
  have hnb := nb_le x
  obtain ⟨n, hn⟩ : ∃ n, n = nb x := ⟨_, rfl⟩
  rw [← hn] at hnb
  obtain ⟨C, hC, mk⟩ := make_cap (1 + n) (by omega)
  have mk : ∀ w : World, (Instr.makeSlice 40 (.int .i64 0) (.int .i64 (1 + (n : Int)))).run Try.prog w = .ok (.slice (some ⟨w.heap.size, 0, none⟩) 0 (1 + n)) (w.alloc (.cells C 5)) := fun w => by rw [← mk w]; congr 2
  have hNum : Hid (num x = (n : Int) :: be n x) := by rw [hn]; rfl
  have HN := hide hn
  go_enter Try.func41, Try.ntmps41
  go_wp2_with fail
  refine (len64_any x w h0 h1).mono ?_
  rintro e w1 ⟨L, rfl, hL0, hL1, hL, rfl⟩
  rw [← hn] at hL
  clear hn
  have hL2 : (L + 8 - 1).tdiv 8 = (n : Int) := by rw [Int.tdiv_eq_ediv_of_nonneg (by omega), ← hL]; congr 1; omega
  have hown0 := hide ((Own.madeN w1 w1.heap.size _ rfl (Nat.le_refl _) C (1 + n) hC (by unfold maxLen; omega)).alloc (.cells #[.int .u8 (n : Int)] 5))
  have hbs0 := hide (BS.one (w1.alloc (.cells C 5)) (w1.heap.size + 1) (by simp) (n : Int) (by omega) (by omega))
  go_wp2_with (at_builtin; refine Stop.at ?_)
  unfold Stop
  refine append_bytes rfl _ _ rfl w1.heap.size _ _ [(n : Int)] rfl hown0.out _ _ _ rfl (by intro h; cases h) hbs0.out (by simp) (by simp; omega) ?_
  intro v' w2 hown hgrow hbel
  have Hown := hide hown
  have Hbel := hide (hbel w1 (((Below.refl _ w1).alloc (Nat.le_refl _) _).alloc (by simp) _))
  clear hown hgrow hbel hown0 hbs0
  go_wp2
  go_loopw [4, 5] (fun v i wr => ∃ (m : Int) (j : Nat) (acc : List Int), i = .int .i64 m ∧ -1 ≤ m ∧ m < 8 ∧ Hid (m + 1 = j) ∧ Hid (acc ++ be j x = num x) ∧ Hid (Own w1.heap.size wr v acc) ∧ Hid (Below w1.heap.size w1 wr)) (fun _ i _ => (intOf i + 1).toNat)
  case atStart => exact ⟨(n : Int) - 1, n, [(n : Int)], rfl, by omega, by omega, by show (n : Int) - 1 + 1 = n; omega, hNum.out.symm, Hown.out, Hbel.out⟩
  case round =>
    obtain ⟨m, j, acc, rfl, hm0, hm8, hmj, hacc, hown, hbel⟩ := hrel
    by_cases hm : 0 ≤ m
    · obtain ⟨k, rfl⟩ := Int.eq_ofNat_of_zero_le hm
      have hjk : j = k + 1 := by have := hmj.out; omega
      subst hjk
      have hstep := hide (be_step x k h0)
      have hsz := hbel.out.size
      go_wp2_with (at_builtin; refine Stop.at ?_)
      unfold Stop
      have hl : acc.length + (k + 1) ≤ 9 := by have h := congrArg List.length hacc.out; rw [List.length_append, be_len, num_len, ← HN.out] at h; omega
      refine append_bytes rfl _ _ rfl w1.heap.size _ _ [x / 2 ^ (8 * k) % 256] rfl (hown.out.alloc _) _ _ _ rfl (by intro h; cases h) (BS.one wr _ rfl _ (by omega) (by omega)) (by simp; omega) (by simp; omega) ?_
      intro v2 w2 hown2 hgrow hbel2
      have Hown2 := hide hown2
      have Hbel2 := hide (hbel2 w1 (hbel.out.alloc (by omega) _))
      have hacc2 : Hid ((acc ++ [x / 2 ^ (8 * k) % 256]) ++ be k x = num x) := by rw [← hacc.out, hstep.out, List.append_assoc]; rfl
      clear hown2 hgrow hbel2 hown hbel hacc hstep
      go_wp2
      go_roundw
      case rel => exact ⟨(k : Int) - 1, k, _, rfl, by omega, by omega, by show (k : Int) - 1 + 1 = k; omega, hacc2, Hown2, Hbel2⟩
      case measure => simp [intOf]
    · have hj : j = 0 := by have := hmj.out; omega
      subst hj
      have hE : Hid (acc = num x) := by have := hacc.out; rw [show be 0 x = [] from rfl, List.append_nil] at this; exact this
      have hown2 : Hid (Own w1.heap.size wr u4 (num x)) := by rw [← hE.out]; exact hown
      clear hown
      go_wp2
      go_ret
      exact ⟨_, rfl, hown2.out, hbel.out⟩

theorem div_s (x : Int) (j : Nat) : x / 256 ^ (j + 1) = x / 256 ^ j / 256 := by rw [pow_s, Int.ediv_ediv_of_nonneg (Int.le_of_lt (pow_pos' j))]
theorem be_cons (x : Int) (j : Nat) : be (j + 1) x = x / 256 ^ j % 256 :: be j x := rfl

set_option maxHeartbeats 1000000 in
set_option maxRecDepth 100000 in
theorem refNum_any (x : Int) (w : World) (h0 : 0 ≤ x) (h1 : x < 18446744073709551616) :
    Calls Try.prog 47 #[.int .u64 x] w fun e w' => ∃ v, e = .returned v ∧ Own w.heap.size w' v (num x) ∧ Below w.heap.size w w' := by
  go_enter Try.func47, Try.ntmps47
  go_wp2
  go_loopw [0, 3] (fun u v wr => ∃ (j : Nat) (y : Int) (p : Option Addr) (cap : Nat), u = .int .u64 y ∧ 0 ≤ y ∧ y < 18446744073709551616 ∧ Hid (y = x / 256 ^ j) ∧ v = .slice p j cap ∧ Hid (p = none → cap = 0) ∧ Hid (BS wr p j (be j x)) ∧ Hid (Below w.heap.size w wr) ∧ Hid (j = 0 ∨ (256 : Int) ^ (j - 1) ≤ x) ∧ j ≤ 8) (fun u _ _ => (intOf u).toNat)
  case atStart => exact ⟨0, x, _, 0, rfl, h0, h1, by show x = x / 1; omega, rfl, fun _ => rfl, BS.nil _ _, (Below.refl _ _).alloc (Nat.le_refl _) _, .inl rfl, by omega⟩
  case round =>
    obtain ⟨j, y, p, cap, rfl, hy0, hy1, hy, rfl, hp, hbs, hbel, hlo, hj8⟩ := hrel
    have hsz := hbel.out.size
    by_cases hpos : 0 < y
    · have hxj : Hid ((256 : Int) ^ j ≤ x) := by
        have := hy.out
        have h1 : 1 ≤ x / 256 ^ j := by omega
        have := (Int.le_ediv_iff_mul_le (pow_pos' j)).1 h1
        show _ ≤ _
        omega
      have hj7 : j < 8 := by
        have h2 := hxj.out
        rcases Nat.lt_or_ge j 8 with h | h
        · exact h
        · have : j = 8 := by omega
          subst this
          omega
      have hcons := hide (be_cons x j)
      go_wp2_with (at_builtin; refine Stop.at ?_)
      unfold Stop
      refine append_bytes rfl _ _ rfl w.heap.size _ _ (be j x) rfl (Own.one wr w.heap.size _ rfl hsz (y % 256)) p j cap rfl hp.out (hbs.out.alloc _) (by rw [be_len]; simp; omega) (by simp; omega) ?_
      intro v2 w2 hown2 hgrow hbel2
      have Hbel2 := hide (hbel2 w (hbel.out.alloc (by omega) _))
      have hE : [y % 256] ++ be j x = be (j + 1) x := by rw [hcons.out, ← hy.out]; rfl
      rw [hE] at hown2
      obtain ⟨p2, cap2, rfl, hbs2, hcp2⟩ := Own.open hown2 (be_by _ _)
      rw [be_len] at hbs2 hcp2
      rw [be_len]
      have Hbs2 := hide hbs2
      have Hcp2 := hide hcp2.2.2
      clear hown2 hgrow hbel2 hbel hbs hbs2 hcp2 hE
      have hdiv : y / 256 = x / 256 ^ (j + 1) := by rw [div_s, ← hy.out]
      have Hdiv := hide hdiv
      clear hdiv
      go_wp2
      go_roundw
      case rel => exact ⟨j + 1, y / 256, p2, cap2, rfl, by omega, by omega, Hdiv, rfl, Hcp2, Hbs2, Hbel2, .inr hxj.out, by omega⟩
      case measure => simp [intOf]; omega
    · have hy00 : y = 0 := by omega
      subst hy00
      have hnb : Hid (nb x = j) := by
        refine nb_is x j h0 hj8 ?_ hlo.out
        have h2 := hy.out
        have h3 : x / 256 ^ j < 1 := by omega
        have := (Int.ediv_lt_iff_lt_mul (pow_pos' j)).1 h3
        omega
      have hE : Hid ([(j : Int)] ++ be j x = num x) := by unfold num; rw [hnb.out]; rfl
      go_wp2_with (at_builtin; refine Stop.at ?_)
      unfold Stop
      refine append_bytes rfl _ _ rfl w.heap.size _ _ (be j x) rfl (Own.one wr w.heap.size _ rfl hsz (j : Int)) p j cap rfl hp.out (hbs.out.alloc _) (by rw [be_len]; simp; omega) (by simp; omega) ?_
      intro v2 w2 hown2 hgrow hbel2
      have Hbel2 := hide (hbel2 w (hbel.out.alloc (by omega) _))
      rw [hE.out] at hown2
      have Hown2 := hide hown2
      clear hown2 hgrow hbel2
      go_wp2
      go_ret
      exact ⟨_, rfl, Hown2.out, Hbel2.out⟩
end Go.Proofs.Ytbeknlpoialgiaa
