/- Texts of this claim, joined: AB6. -/
import Derived.Test.YtkbbegbpkndebaaGreatRows
import Derived.WalkKit
import Derived.WalkSpells
import Derived.WalkLawsBesides
import Derived.Handy
import Derived.Lib.Tables
import Derived.Test.YtkbbegbpkndebaaGreatJ1
import Derived.Test.YtkbbegbpkndebaaGreatJ2
import Derived.Test.YtkbbegbpkndebaaGreatJ3
/- What is said of memory and of numbers, gathered (Base, WMath, WLen, WPut, WText, WPack, WOwnP, EGet2, EFun4, EFun5, ERef2, Lay). -/
namespace Go.Proofs.YtkbbegbpkndebaaGreat
open Go.RowKit
theorem unhide {p : Prop} (h : Hid p) : p := h
end Go.Proofs.YtkbbegbpkndebaaGreat

namespace Go.Proofs.YtkbbegbpkndebaaGreat
theorem pow_pos' (k : Nat) : (0 : Int) < 256 ^ k := Int.pow_pos (by decide)
theorem pow_s (k : Nat) : (256 : Int) ^ (k + 1) = 256 ^ k * 256 := Int.pow_succ ..
theorem be_len (k : Nat) (x : Int) : (be k x).length = k := by
  induction k with
  | zero => rfl
  | succ k ih => simp [be, ih]
theorem be_by (k : Nat) (x : Int) : By (be k x) := by
  induction k with
  | zero => exact By.nil
  | succ k ih => exact By.cons (by omega) (by omega) ih
theorem nb_le (x : Int) : nb x ≤ 8 := by unfold nb; repeat' split
                                         all_goals omega
theorem num_by (x : Int) : By (num x) := By.cons (by omega) (by have := nb_le x; omega) (be_by _ _)
theorem num_len (x : Int) : (num x).length = nb x + 1 := by simp [num, be_len]
theorem nb_is (x : Int) (k : Nat) (h0 : 0 ≤ x) (hk : k ≤ 8) (hi : x < 256 ^ k) (lo : k = 0 ∨ (256 : Int) ^ (k - 1) ≤ x) : nb x = k := by
  have h8 : k = 0 ∨ k = 1 ∨ k = 2 ∨ k = 3 ∨ k = 4 ∨ k = 5 ∨ k = 6 ∨ k = 7 ∨ k = 8 := by omega
  rcases h8 with rfl | rfl | rfl | rfl | rfl | rfl | rfl | rfl | rfl
  all_goals
    simp at hi lo
    unfold nb
    repeat' split
    all_goals omega
def text (t : List Int) : List Int := num t.length ++ t
theorem text_by {t : List Int} (h : By t) : By (text t) := (num_by _).append h
def pack (l : List (List Int)) : List Int := num l.length ++ l.flatMap text
end Go.Proofs.YtkbbegbpkndebaaGreat

namespace Go.Proofs.YtkbbegbpkndebaaGreat
open Go.RowKit
set_option maxRecDepth 100000 in
theorem tab_all : ∀ y : Fin 256, Lib.len8tab.data[y.1]!.toNat ≤ 8 ∧ (Lib.len8tab.data[y.1]!.toNat = 0 ↔ y.1 = 0) := by decide +kernel
set_option maxRecDepth 100000 in
theorem tab_size : Lib.len8tab.size = 256 := by decide +kernel
theorem tab_get (y : Nat) (h : y < Lib.len8tab.size) : (Lib.len8tab[y]'h).toNat ≤ 8 ∧ ((Lib.len8tab[y]'h).toNat = 0 ↔ y = 0) := by
  have h' : y < 256 := by rw [← tab_size]; exact h
  have := tab_all ⟨y, h'⟩
  have e : Lib.len8tab[y]'h = Lib.len8tab.data[y]! := by
    have hd : y < Lib.len8tab.data.size := h
    rw [getElem!_pos Lib.len8tab.data y hd]; rfl
  rw [e]; exact this
theorem nb_way (j : Nat) (x : Int) (hx : 0 ≤ x) (hj : j ≤ 7) (h1 : 1 ≤ x / 256 ^ j) (h2 : x / 256 ^ j < 256) : nb x = j + 1 := by
  have hp := pow_pos' j
  refine nb_is x (j + 1) hx (by omega) ?_ (.inr ?_)
  · rw [pow_s, Int.mul_comm]
    have := (Int.ediv_lt_iff_lt_mul hp).1 h2
    exact this
  · rw [Nat.add_sub_cancel]
    have := (Int.le_ediv_iff_mul_le hp).1 h1
    omega
theorem len_fin (j : Nat) (x y : Int) (h : y.toNat < Lib.len8tab.size) (hx : 0 ≤ x) (hj : j ≤ 7) (hy : y = x / 256 ^ j) (h2 : y < 256) (hlo : j = 0 ∨ 1 ≤ y) :
    ∃ t : Nat, (Lib.len8tab[y.toNat]'h).toNat = t ∧ t ≤ 8 ∧ (8 * (j : Int) + t + 7) / 8 = nb x := by
  obtain ⟨g1, g2⟩ := tab_get y.toNat h
  refine ⟨_, rfl, g1, ?_⟩
  by_cases h0 : 1 ≤ y
  · rw [nb_way j x hx hj (by omega) (by omega)]
    have : (Lib.len8tab[y.toNat]'h).toNat ≠ 0 := fun e => by have := g2.1 e; omega
    omega
  · have hj0 : j = 0 := by omega
    subst hj0
    simp at hy
    subst hy
    have hx0 : y = 0 := by omega
    have : (Lib.len8tab[y.toNat]'h).toNat = 0 := g2.2 (by omega)
    rw [this, hx0]
    decide
theorem wrap_a (k t : Nat) (hk : k ≤ 56) (ht : t ≤ 8) : wrap64 ((k : Int) + wrap64 (t : Int)) = (k : Int) + t := by unfold wrap64; omega
theorem wrap_b (t : Nat) (ht : t ≤ 8) : wrap64 (wrap64 (t : Int)) = (t : Int) := by unfold wrap64; omega
set_option maxRecDepth 100000 in
set_option maxHeartbeats 4000000 in
theorem len64_any (x : Int) (w : World) (h0 : 0 ≤ x) (h1 : x < 18446744073709551616) :
    Calls Tryz.prog 185 #[.int .u64 x] w fun e w' => ∃ L : Int, e = .returned (.int .i64 L) ∧ 0 ≤ L ∧ L ≤ 64 ∧ (L + 7) / 8 = nb x ∧ w' = w := by
  have ts := tab_size
  by_cases c1 : 4294967296 ≤ x
  · by_cases c2 : 65536 ≤ x / 4294967296
    · by_cases c3 : 256 ≤ x / 4294967296 / 65536
      · obtain ⟨t, ht, ht8, hn⟩ := len_fin 7 x (x / 4294967296 / 65536 / 256) (by omega) h0 (by omega) (by omega) (by omega) (.inr (by omega))
        have A := hide (And.intro ht hn)
        clear ht hn
        go_enter Tryz.func185, Tryz.ntmps185
        go_wp2
        go_ret
        obtain ⟨ht, hn⟩ := unhide A
        refine ⟨_, rfl, ?_⟩
        erw [ht, wrap_a 56 t (by omega) ht8]
        exact ⟨by omega, by omega, hn, rfl⟩
      · obtain ⟨t, ht, ht8, hn⟩ := len_fin 6 x (x / 4294967296 / 65536) (by omega) h0 (by omega) (by omega) (by omega) (.inr (by omega))
        have A := hide (And.intro ht hn)
        clear ht hn
        go_enter Tryz.func185, Tryz.ntmps185
        go_wp2
        go_ret
        obtain ⟨ht, hn⟩ := unhide A
        refine ⟨_, rfl, ?_⟩
        erw [ht, wrap_a 48 t (by omega) ht8]
        exact ⟨by omega, by omega, hn, rfl⟩
    · by_cases c3 : 256 ≤ x / 4294967296
      · obtain ⟨t, ht, ht8, hn⟩ := len_fin 5 x (x / 4294967296 / 256) (by omega) h0 (by omega) (by omega) (by omega) (.inr (by omega))
        have A := hide (And.intro ht hn)
        clear ht hn
        go_enter Tryz.func185, Tryz.ntmps185
        go_wp2
        go_ret
        obtain ⟨ht, hn⟩ := unhide A
        refine ⟨_, rfl, ?_⟩
        erw [ht, wrap_a 40 t (by omega) ht8]
        exact ⟨by omega, by omega, hn, rfl⟩
      · obtain ⟨t, ht, ht8, hn⟩ := len_fin 4 x (x / 4294967296) (by omega) h0 (by omega) (by omega) (by omega) (.inr (by omega))
        have A := hide (And.intro ht hn)
        clear ht hn
        go_enter Tryz.func185, Tryz.ntmps185
        go_wp2
        go_ret
        obtain ⟨ht, hn⟩ := unhide A
        refine ⟨_, rfl, ?_⟩
        erw [ht, wrap_a 32 t (by omega) ht8]
        exact ⟨by omega, by omega, hn, rfl⟩
  · by_cases c2 : 65536 ≤ x
    · by_cases c3 : 256 ≤ x / 65536
      · obtain ⟨t, ht, ht8, hn⟩ := len_fin 3 x (x / 65536 / 256) (by omega) h0 (by omega) (by omega) (by omega) (.inr (by omega))
        have A := hide (And.intro ht hn)
        clear ht hn
        go_enter Tryz.func185, Tryz.ntmps185
        go_wp2
        go_ret
        obtain ⟨ht, hn⟩ := unhide A
        refine ⟨_, rfl, ?_⟩
        erw [ht, wrap_a 24 t (by omega) ht8]
        exact ⟨by omega, by omega, hn, rfl⟩
      · obtain ⟨t, ht, ht8, hn⟩ := len_fin 2 x (x / 65536) (by omega) h0 (by omega) (by omega) (by omega) (.inr (by omega))
        have A := hide (And.intro ht hn)
        clear ht hn
        go_enter Tryz.func185, Tryz.ntmps185
        go_wp2
        go_ret
        obtain ⟨ht, hn⟩ := unhide A
        refine ⟨_, rfl, ?_⟩
        erw [ht, wrap_a 16 t (by omega) ht8]
        exact ⟨by omega, by omega, hn, rfl⟩
    · by_cases c3 : 256 ≤ x
      · obtain ⟨t, ht, ht8, hn⟩ := len_fin 1 x (x / 256) (by omega) h0 (by omega) (by omega) (by omega) (.inr (by omega))
        have A := hide (And.intro ht hn)
        clear ht hn
        go_enter Tryz.func185, Tryz.ntmps185
        go_wp2
        go_ret
        obtain ⟨ht, hn⟩ := unhide A
        refine ⟨_, rfl, ?_⟩
        erw [ht, wrap_a 8 t (by omega) ht8]
        exact ⟨by omega, by omega, hn, rfl⟩
      · obtain ⟨t, ht, ht8, hn⟩ := len_fin 0 x (x) (by omega) h0 (by omega) (by omega) (by omega) (.inl rfl)
        have A := hide (And.intro ht hn)
        clear ht hn
        go_enter Tryz.func185, Tryz.ntmps185
        go_wp2
        go_ret
        obtain ⟨ht, hn⟩ := unhide A
        refine ⟨_, rfl, ?_⟩
        erw [ht, wrap_b t ht8]
        exact ⟨by omega, by omega, by simpa using hn, rfl⟩
end Go.Proofs.YtkbbegbpkndebaaGreat

namespace Go.Proofs.YtkbbegbpkndebaaGreat
open Go.RowKit
set_option linter.unusedVariables false
theorem be_step (x : Int) (k : Nat) (h0 : 0 ≤ x) : be (k + 1) x = x / 2 ^ (8 * k) % 256 :: be k x := by
  have : (2 : Int) ^ (8 * k) = 256 ^ k := by rw [Int.pow_mul]; rfl
  rw [this]; rfl
theorem make_cap (c : Nat) (hc : c ≤ 1000000) : ∃ C : Array Value, C.size = c ∧ ∀ w : World, (Instr.makeSlice 59 (.int .i64 0) (.int .i64 (c : Int))).run Tryz.prog w = .ok (.slice (some ⟨w.heap.size, 0, none⟩) 0 c) (w.alloc (.cells C 5)) := by
  obtain ⟨i0, hi, hz0, hz1, hz2⟩ := info_parts Tryz.infoU8
  refine ⟨madeCells (Value.int .u8 0).cells (c * i0.size), ?_, fun w => ?_⟩
  · rw [size_madeCells, hz1]; simp
  · have h := run_make (P := Tryz.prog) w 59 5 i0 (.int .u8 0) Tryz.underlying59 hi hz0 .i64 .i64 0 (c : Int) (by omega) (by omega) (by rw [hz2]; omega) (by omega)
    simpa using h
set_option maxHeartbeats 1000000 in
set_option maxRecDepth 100000 in
theorem num_any (x : Int) (w : World) (h0 : 0 ≤ x) (h1 : x < 18446744073709551616) :
    Calls Tryz.prog 145 #[.int .u64 x] w fun e w' => ∃ v, e = .returned v ∧ Own w.heap.size w' v (num x) ∧ Below w.heap.size w w' := by
  have hnb := nb_le x
  obtain ⟨n, hn⟩ : ∃ n, n = nb x := ⟨_, rfl⟩
  rw [← hn] at hnb
  obtain ⟨C, hC, mk⟩ := make_cap (1 + n) (by omega)
  have mk : ∀ w : World, (Instr.makeSlice 59 (.int .i64 0) (.int .i64 (1 + (n : Int)))).run Tryz.prog w = .ok (.slice (some ⟨w.heap.size, 0, none⟩) 0 (1 + n)) (w.alloc (.cells C 5)) := fun w => by rw [← mk w]; congr 2
  have hNum : Hid (num x = (n : Int) :: be n x) := by rw [hn]; rfl
  have HN := hide hn
  go_enter Tryz.func145, Tryz.ntmps145
  go_wp2_with fail
  refine (len64_any x w h0 h1).mono ?_
  rintro e w1 ⟨L, rfl, hL0, hL1, hL, rfl⟩
  rw [← hn] at hL
  clear hn
  have hL2 : (L + 8 - 1).tdiv 8 = (n : Int) := by rw [Int.tdiv_eq_ediv_of_nonneg (by omega), ← hL]; congr 1; omega
  have hown0 := hide ((Own.madeN w1 w1.heap.size _ rfl (Nat.le_refl _) C (1 + n) hC (by unfold maxLen; omega)).alloc (.cells #[.int .u8 (n : Int)] 5))
  have hbs0 := hide (BS.one (w1.alloc (.cells C 5)) (w1.heap.size + 1) (by simp) (n : Int) (by omega) (by omega))
  go_wp2_with (at_builtin; refine Stop.at ?_)
  unfold Stop
  refine append_bytes rfl _ _ rfl w1.heap.size _ _ [(n : Int)] rfl hown0.out _ _ _ rfl (by intro h; cases h) hbs0.out (by simp) (by simp; omega) ?_
  intro v' w2 hown hgrow hbel
  have Hown := hide hown
  have Hbel := hide (hbel w1 (((Below.refl _ w1).alloc (Nat.le_refl _) _).alloc (by simp) _))
  clear hown hgrow hbel hown0 hbs0
  go_wp2
  go_loopw [4, 5] (fun v i wr => ∃ (m : Int) (j : Nat) (acc : List Int), i = .int .i64 m ∧ -1 ≤ m ∧ m < 8 ∧ Hid (m + 1 = j) ∧ Hid (acc ++ be j x = num x) ∧ Hid (Own w1.heap.size wr v acc) ∧ Hid (Below w1.heap.size w1 wr)) (fun _ i _ => (intOf i + 1).toNat)
  case atStart => exact ⟨(n : Int) - 1, n, [(n : Int)], rfl, by omega, by omega, by show (n : Int) - 1 + 1 = n; omega, hNum.out.symm, Hown.out, Hbel.out⟩
  case round =>
    obtain ⟨m, j, acc, rfl, hm0, hm8, hmj, hacc, hown, hbel⟩ := hrel
    by_cases hm : 0 ≤ m
    · obtain ⟨k, rfl⟩ := Int.eq_ofNat_of_zero_le hm
      have hjk : j = k + 1 := by have := hmj.out; omega
      subst hjk
      have hstep := hide (be_step x k h0)
      have hsz := hbel.out.size
      go_wp2_with (at_builtin; refine Stop.at ?_)
      unfold Stop
      have hl : acc.length + (k + 1) ≤ 9 := by have h := congrArg List.length hacc.out; rw [List.length_append, be_len, num_len, ← HN.out] at h; omega
      refine append_bytes rfl _ _ rfl w1.heap.size _ _ [x / 2 ^ (8 * k) % 256] rfl (hown.out.alloc _) _ _ _ rfl (by intro h; cases h) (BS.one wr _ rfl _ (by omega) (by omega)) (by simp; omega) (by simp; omega) ?_
      intro v2 w2 hown2 hgrow hbel2
      have Hown2 := hide hown2
      have Hbel2 := hide (hbel2 w1 (hbel.out.alloc (by omega) _))
      have hacc2 : Hid ((acc ++ [x / 2 ^ (8 * k) % 256]) ++ be k x = num x) := by rw [← hacc.out, hstep.out, List.append_assoc]; rfl
      clear hown2 hgrow hbel2 hown hbel hacc hstep
      go_wp2
      go_roundw
      case rel => exact ⟨(k : Int) - 1, k, _, rfl, by omega, by omega, by show (k : Int) - 1 + 1 = k; omega, hacc2, Hown2, Hbel2⟩
      case measure => simp [intOf]
    · have hj : j = 0 := by have := hmj.out; omega
      subst hj
      have hE : Hid (acc = num x) := by have := hacc.out; rw [show be 0 x = [] from rfl, List.append_nil] at this; exact this
      have hown2 : Hid (Own w1.heap.size wr u4 (num x)) := by rw [← hE.out]; exact hown
      clear hown
      go_wp2
      go_ret
      exact ⟨_, rfl, hown2.out, hbel.out⟩
theorem div_s (x : Int) (j : Nat) : x / 256 ^ (j + 1) = x / 256 ^ j / 256 := by rw [pow_s, Int.ediv_ediv_of_nonneg (Int.le_of_lt (pow_pos' j))]
theorem be_cons (x : Int) (j : Nat) : be (j + 1) x = x / 256 ^ j % 256 :: be j x := rfl
set_option maxHeartbeats 1000000 in
set_option maxRecDepth 100000 in
theorem refNum_any (x : Int) (w : World) (h0 : 0 ≤ x) (h1 : x < 18446744073709551616) :
    Calls Tryz.prog 153 #[.int .u64 x] w fun e w' => ∃ v, e = .returned v ∧ Own w.heap.size w' v (num x) ∧ Below w.heap.size w w' := by
  go_enter Tryz.func153, Tryz.ntmps153
  go_wp2
  go_loopw [0, 3] (fun u v wr => ∃ (j : Nat) (y : Int) (p : Option Addr) (cap : Nat), u = .int .u64 y ∧ 0 ≤ y ∧ y < 18446744073709551616 ∧ Hid (y = x / 256 ^ j) ∧ v = .slice p j cap ∧ Hid (p = none → cap = 0) ∧ Hid (BS wr p j (be j x)) ∧ Hid (Below w.heap.size w wr) ∧ Hid (j = 0 ∨ (256 : Int) ^ (j - 1) ≤ x) ∧ j ≤ 8) (fun u _ _ => (intOf u).toNat)
  case atStart => exact ⟨0, x, _, 0, rfl, h0, h1, by show x = x / 1; omega, rfl, fun _ => rfl, BS.nil _ _, (Below.refl _ _).alloc (Nat.le_refl _) _, .inl rfl, by omega⟩
  case round =>
    obtain ⟨j, y, p, cap, rfl, hy0, hy1, hy, rfl, hp, hbs, hbel, hlo, hj8⟩ := hrel
    have hsz := hbel.out.size
    by_cases hpos : 0 < y
    · have hxj : Hid ((256 : Int) ^ j ≤ x) := by
        have := hy.out
        have h1 : 1 ≤ x / 256 ^ j := by omega
        have := (Int.le_ediv_iff_mul_le (pow_pos' j)).1 h1
        show _ ≤ _
        omega
      have hj7 : j < 8 := by
        have h2 := hxj.out
        rcases Nat.lt_or_ge j 8 with h | h
        · exact h
        · have : j = 8 := by omega
          subst this
          omega
      have hcons := hide (be_cons x j)
      go_wp2_with (at_builtin; refine Stop.at ?_)
      unfold Stop
      refine append_bytes rfl _ _ rfl w.heap.size _ _ (be j x) rfl (Own.one wr w.heap.size _ rfl hsz (y % 256)) p j cap rfl hp.out (hbs.out.alloc _) (by rw [be_len]; simp; omega) (by simp; omega) ?_
      intro v2 w2 hown2 hgrow hbel2
      have Hbel2 := hide (hbel2 w (hbel.out.alloc (by omega) _))
      have hE : [y % 256] ++ be j x = be (j + 1) x := by rw [hcons.out, ← hy.out]; rfl
      rw [hE] at hown2
      obtain ⟨p2, cap2, rfl, hbs2, hcp2⟩ := Own.open hown2 (be_by _ _)
      rw [be_len] at hbs2 hcp2
      rw [be_len]
      have Hbs2 := hide hbs2
      have Hcp2 := hide hcp2.2.2
      clear hown2 hgrow hbel2 hbel hbs hbs2 hcp2 hE
      have hdiv : y / 256 = x / 256 ^ (j + 1) := by rw [div_s, ← hy.out]
      have Hdiv := hide hdiv
      clear hdiv
      go_wp2
      go_roundw
      case rel => exact ⟨j + 1, y / 256, p2, cap2, rfl, by omega, by omega, Hdiv, rfl, Hcp2, Hbs2, Hbel2, .inr hxj.out, by omega⟩
      case measure => simp [intOf]; omega
    · have hy00 : y = 0 := by omega
      subst hy00
      have hnb : Hid (nb x = j) := by
        refine nb_is x j h0 hj8 ?_ hlo.out
        have h2 := hy.out
        have h3 : x / 256 ^ j < 1 := by omega
        have := (Int.ediv_lt_iff_lt_mul (pow_pos' j)).1 h3
        omega
      have hE : Hid ([(j : Int)] ++ be j x = num x) := by unfold num; rw [hnb.out]; rfl
      go_wp2_with (at_builtin; refine Stop.at ?_)
      unfold Stop
      refine append_bytes rfl _ _ rfl w.heap.size _ _ (be j x) rfl (Own.one wr w.heap.size _ rfl hsz (j : Int)) p j cap rfl hp.out (hbs.out.alloc _) (by rw [be_len]; simp; omega) (by simp; omega) ?_
      intro v2 w2 hown2 hgrow hbel2
      have Hbel2 := hide (hbel2 w (hbel.out.alloc (by omega) _))
      rw [hE.out] at hown2
      have Hown2 := hide hown2
      clear hown2 hgrow hbel2
      go_wp2
      go_ret
      exact ⟨_, rfl, Hown2.out, Hbel2.out⟩
end Go.Proofs.YtkbbegbpkndebaaGreat

namespace Go.Proofs.YtkbbegbpkndebaaGreat
open Go.RowKit
set_option linter.unusedVariables false
set_option maxHeartbeats 1000000 in
set_option maxRecDepth 100000 in
theorem text_any (a : Option Addr) (n c : Nat) (l : List Int) (w : World) (hA : BS w a n l) (hp : a = none → c = 0) (hbig : n ≤ 1000000) :
    Calls Tryz.prog 146 #[.slice a n c] w fun e w' => ∃ v, e = .returned v ∧ Own w.heap.size w' v (text l) ∧ Below w.heap.size w w' := by
  have hl := hide hA.1
  have HA := hide hA
  clear hA
  have hnb := num_len (n : Int)
  have hnb8 := nb_le (n : Int)
  go_enter Tryz.func146, Tryz.ntmps146
  go_wp2_with fail
  refine (num_any (n : Int) w (by omega) (by omega)).mono ?_
  rintro e w1 ⟨v, rfl, hown, hb⟩
  have Hown := hide hown
  have Hb := hide hb
  have hsz := hb.size
  clear hown hb
  go_wp2_with (at_builtin; refine Stop.at ?_)
  unfold Stop
  refine append_bytes rfl _ _ rfl w.heap.size _ _ l rfl Hown.out a n c rfl hp (HA.out.below Hb.out) (by rw [hl.out, hnb]; omega) hsz ?_
  intro v2 w2 hown2 hgrow hbel
  have Hown2 := hide hown2
  have Hbel := hide (hbel w Hb.out)
  clear hown2 hgrow hbel
  go_wp2
  go_ret
  refine ⟨_, rfl, ?_, Hbel.out⟩
  have := Hown2.out
  unfold text
  rw [hl.out]
  exact this
set_option maxHeartbeats 1000000 in
set_option maxRecDepth 100000 in
theorem refText_any (a : Option Addr) (n c : Nat) (l : List Int) (w : World) (hA : BS w a n l) (hp : a = none → c = 0) (hbig : n ≤ 1000000) :
    Calls Tryz.prog 154 #[.slice a n c] w fun e w' => ∃ v, e = .returned v ∧ Own w.heap.size w' v (text l) ∧ Below w.heap.size w w' := by
  have hl := hide hA.1
  have HA := hide hA
  clear hA
  have hnb := num_len (n : Int)
  have hnb8 := nb_le (n : Int)
  go_enter Tryz.func154, Tryz.ntmps154
  go_wp2_with fail
  refine (refNum_any (n : Int) w (by omega) (by omega)).mono ?_
  rintro e w1 ⟨v, rfl, hown, hb⟩
  have Hown := hide hown
  have Hb := hide hb
  have hsz := hb.size
  clear hown hb
  go_wp2_with (at_builtin; refine Stop.at ?_)
  unfold Stop
  refine append_bytes rfl _ _ rfl w.heap.size _ _ l rfl Hown.out a n c rfl hp (HA.out.below Hb.out) (by rw [hl.out, hnb]; omega) hsz ?_
  intro v2 w2 hown2 hgrow hbel
  have Hown2 := hide hown2
  have Hbel := hide (hbel w Hb.out)
  clear hown2 hgrow hbel
  go_wp2
  go_ret
  refine ⟨_, rfl, ?_, Hbel.out⟩
  have := Hown2.out
  unfold text
  rw [hl.out]
  exact this
end Go.Proofs.YtkbbegbpkndebaaGreat

namespace Go.Proofs.YtkbbegbpkndebaaGreat
open Go.RowKit
set_option linter.unusedVariables false
def PC (w : World) (a : Option Addr) (n : Nat) (ps : List (List Int)) : Prop :=
  ps.length = n ∧ n ≤ maxLen ∧ (n = 0 ∨ ∃ b off, a = some ⟨b, off, none⟩ ∧ ∀ i, i < n → ∃ x len cap, w.cell? ⟨b, off + i, none⟩ = some (.slice x len cap) ∧ BS w x len (ps.getD i []) ∧ CP x len cap)
theorem PC.ext {w w' : World} {a : Option Addr} {n : Nat} {ps : List (List Int)} (h : PC w a n ps) (hx : Ext w w') : PC w' a n ps := by
  obtain ⟨h1, h2, h3⟩ := h
  refine ⟨h1, h2, ?_⟩
  rcases h3 with h0 | ⟨b, off, ha, hc⟩
  · exact .inl h0
  · refine .inr ⟨b, off, ha, fun i hi => ?_⟩
    obtain ⟨x, len, cap, q1, q2, q3⟩ := hc i hi
    exact ⟨x, len, cap, hx _ _ q1, q2.ext hx, q3⟩
theorem PC.below {w w' : World} {a : Option Addr} {n : Nat} {ps : List (List Int)} (h : PC w a n ps) (hb : Below w.heap.size w w') : PC w' a n ps := h.ext ((Ext.refl w).below hb)
theorem PC.at {w : World} {a : Option Addr} {n : Nat} {ps : List (List Int)} (h : PC w a n ps) (i : Nat) (hi : i < n) : ∃ b off x len cap, a = some ⟨b, off, none⟩ ∧ w.cell? ⟨b, off + i, none⟩ = some (.slice x len cap) ∧ BS w x len (ps.getD i []) ∧ CP x len cap := by
  rcases h.2.2 with h0 | ⟨b, off, rfl, hc⟩
  · omega
  · obtain ⟨x, len, cap, q⟩ := hc i hi
    exact ⟨b, off, x, len, cap, rfl, q⟩
theorem getD_mem {ps : List (List Int)} {i : Nat} (h : i < ps.length) : ps.getD i [] ∈ ps := by
  have : ps.getD i [] = ps[i] := by simp [List.getD_eq_getElem?_getD, h]
  rw [this]; exact List.getElem_mem h
theorem drop_flat (ps : List (List Int)) (k : Nat) (h : k < ps.length) : (ps.drop k).flatMap text = text (ps.getD k []) ++ (ps.drop (k + 1)).flatMap text := by
  rw [List.drop_eq_getElem_cons h, List.flatMap_cons]
  simp [List.getD_eq_getElem?_getD, h]
theorem text_len (t : List Int) : (text t).length ≤ t.length + 9 := by
  unfold text
  rw [List.length_append, num_len]
  have := nb_le t.length
  omega
set_option maxHeartbeats 1000000 in
set_option maxRecDepth 100000 in
theorem pack_any (a : Option Addr) (n c : Nat) (ps : List (List Int)) (w : World) (hA : PC w a n ps) (hn : n ≤ 1000) (hps : ∀ p ∈ ps, p.length ≤ 100000) :
    Calls Tryz.prog 88 #[.slice a n c] w fun e w' => ∃ v, e = .returned v ∧ Own w.heap.size w' v (pack ps) ∧ Below w.heap.size w w' := by
  have hl := hide hA.1
  have HA := hide hA
  have Hps := hide hps
  clear hA hps
  have hnb := num_len (n : Int)
  have hnb8 := nb_le (n : Int)
  have hnI : (n : Int) ≤ 1000 := by omega
  have Hn := hide hn
  have Hnb := hide hnb
  clear hn hnb
  go_enter Tryz.func88, Tryz.ntmps88
  go_wp2_with fail
  refine (num_any (n : Int) w (by omega) (by omega)).mono ?_
  rintro e w1 ⟨v, rfl, hown, hb⟩
  have Hown := hide hown
  have Hb := hide hb
  clear hown hb
  go_wp2
  go_loopw [3, 12] (fun v i wr => ∃ (k : Nat) (acc : List Int), k ≤ n ∧ i = .int .i64 k ∧ Hid (acc ++ (ps.drop k).flatMap text = pack ps) ∧ Hid (acc.length ≤ 9 + k * 100009) ∧ Hid (Own w.heap.size wr v acc) ∧ Hid (Below w.heap.size w wr)) (fun _ i _ => n - (intOf i).toNat)
  case atStart => exact ⟨0, num n, by omega, rfl, by unfold pack; rw [hl.out]; rfl, by have := Hnb.out; show _ ≤ _; omega, Hown.out, Hb.out⟩
  case round =>
    obtain ⟨k, acc, hk, rfl, hacc, hal, hown, hbel⟩ := hrel
    have hsz := hbel.out.size
    by_cases hlt : k < n
    · have hkl : k < ps.length := by rw [hl.out]; exact hlt
      obtain ⟨b, off, x, len, cap, rfl, q, hbs, hcp⟩ := (HA.out.below hbel.out).at k hlt
      have Hbs := hide hbs
      have Hcp := hide hcp
      have hp := hide (Hps.out _ (getD_mem hkl))
      have hlen : Hid (len ≤ 100000) := by have := hbs.1; have := hp.out; show _ ≤ _; omega
      have hdf := hide (drop_flat ps k hkl)
      clear hbs hcp hkl
      have hltI : (k : Int) < (n : Int) := by omega
      go_wp2_with fail
      refine (text_any _ _ _ _ wr Hbs.out Hcp.out.2.2 (by have := hlen.out; omega)).mono ?_
      rintro e w2 ⟨v2, rfl, hown2, hb2⟩
      obtain ⟨p2, cap2, rfl, hbs2, hcp2⟩ := hown2.open (text_by Hbs.out.2.2.1)
      have Hbs2 := hide hbs2
      have Hcp2 := hide hcp2
      have Hb2 := hide hb2
      have Hown2 := hide (hown.out.below hb2)
      have hsz2 := hb2.size
      have hbel2 := hide (hbel.out.trans (hb2.mono hsz))
      clear hown2 hbs2 hcp2 hb2 hown hbel
      go_wp2_with (at_builtin; refine Stop.at ?_)
      unfold Stop
      have htl := hide (text_len (ps.getD k []))
      refine append_bytes rfl _ _ rfl w.heap.size _ _ _ rfl Hown2.out p2 _ cap2 rfl Hcp2.out.2.2 Hbs2.out (by have := hal.out; have := htl.out; have := hp.out; have := Hn.out; omega) (by omega) ?_
      intro v3 w3 hown3 hgrow hbel3
      have Hown3 := hide hown3
      have Hbel3 := hide (hbel3 w hbel2.out)
      have hacc2 : Hid ((acc ++ text (ps.getD k [])) ++ (ps.drop (k + 1)).flatMap text = pack ps) := by rw [← hacc.out, hdf.out, List.append_assoc]; rfl
      have hal2 : Hid ((acc ++ text (ps.getD k [])).length ≤ 9 + (k + 1) * 100009) := by
        have := hal.out; have := htl.out; have := hp.out
        show _ ≤ _
        rw [List.length_append]; omega
      clear hown3 hgrow hbel3 hacc hal htl
      go_wp2
      go_roundw
      case rel => exact ⟨k + 1, _, by omega, by go_num, hacc2, hal2, Hown3, Hbel3⟩
      case measure => simp [intOf]; omega
    · have hkl : k = n := by omega
      subst hkl
      have hE : Hid (acc = pack ps) := by have h2 := hacc.out; rw [List.drop_of_length_le (by rw [hl.out]; exact Nat.le_refl _)] at h2; refine hide ?_; simpa using h2
      have hown2 : Hid (Own w.heap.size wr u3 (pack ps)) := by rw [← hE.out]; exact hown
      clear hown
      go_wp2
      go_ret
      exact ⟨_, rfl, hown2.out, hbel.out⟩
set_option maxHeartbeats 1000000 in
set_option maxRecDepth 100000 in
theorem refPack_any (a : Option Addr) (n c : Nat) (ps : List (List Int)) (w : World) (hA : PC w a n ps) (hn : n ≤ 1000) (hps : ∀ p ∈ ps, p.length ≤ 100000) :
    Calls Tryz.prog 99 #[.slice a n c] w fun e w' => ∃ v, e = .returned v ∧ Own w.heap.size w' v (pack ps) ∧ Below w.heap.size w w' := by
  have hl := hide hA.1
  have HA := hide hA
  have Hps := hide hps
  clear hA hps
  have hnb := num_len (n : Int)
  have hnb8 := nb_le (n : Int)
  have hnI : (n : Int) ≤ 1000 := by omega
  have Hn := hide hn
  have Hnb := hide hnb
  clear hn hnb
  go_enter Tryz.func99, Tryz.ntmps99
  go_wp2_with fail
  refine (refNum_any (n : Int) w (by omega) (by omega)).mono ?_
  rintro e w1 ⟨v, rfl, hown, hb⟩
  have Hown := hide hown
  have Hb := hide hb
  clear hown hb
  go_wp2
  go_loopw [3, 4] (fun v i wr => ∃ (k : Nat) (acc : List Int), k ≤ n ∧ i = .int .i64 k ∧ Hid (acc ++ (ps.drop k).flatMap text = pack ps) ∧ Hid (acc.length ≤ 9 + k * 100009) ∧ Hid (Own w.heap.size wr v acc) ∧ Hid (Below w.heap.size w wr)) (fun _ i _ => n - (intOf i).toNat)
  case atStart => exact ⟨0, num n, by omega, rfl, by unfold pack; rw [hl.out]; rfl, by have := Hnb.out; show _ ≤ _; omega, Hown.out, Hb.out⟩
  case round =>
    obtain ⟨k, acc, hk, rfl, hacc, hal, hown, hbel⟩ := hrel
    have hsz := hbel.out.size
    by_cases hlt : k < n
    · have hkl : k < ps.length := by rw [hl.out]; exact hlt
      obtain ⟨b, off, x, len, cap, rfl, q, hbs, hcp⟩ := (HA.out.below hbel.out).at k hlt
      have Hbs := hide hbs
      have Hcp := hide hcp
      have hp := hide (Hps.out _ (getD_mem hkl))
      have hlen : Hid (len ≤ 100000) := by have := hbs.1; have := hp.out; show _ ≤ _; omega
      have hdf := hide (drop_flat ps k hkl)
      clear hbs hcp hkl
      have hltI : (k : Int) < (n : Int) := by omega
      go_wp2_with fail
      refine (refText_any _ _ _ _ wr Hbs.out Hcp.out.2.2 (by have := hlen.out; omega)).mono ?_
      rintro e w2 ⟨v2, rfl, hown2, hb2⟩
      obtain ⟨p2, cap2, rfl, hbs2, hcp2⟩ := hown2.open (text_by Hbs.out.2.2.1)
      have Hbs2 := hide hbs2
      have Hcp2 := hide hcp2
      have Hb2 := hide hb2
      have Hown2 := hide (hown.out.below hb2)
      have hsz2 := hb2.size
      have hbel2 := hide (hbel.out.trans (hb2.mono hsz))
      clear hown2 hbs2 hcp2 hb2 hown hbel
      go_wp2_with (at_builtin; refine Stop.at ?_)
      unfold Stop
      have htl := hide (text_len (ps.getD k []))
      refine append_bytes rfl _ _ rfl w.heap.size _ _ _ rfl Hown2.out p2 _ cap2 rfl Hcp2.out.2.2 Hbs2.out (by have := hal.out; have := htl.out; have := hp.out; have := Hn.out; omega) (by omega) ?_
      intro v3 w3 hown3 hgrow hbel3
      have Hown3 := hide hown3
      have Hbel3 := hide (hbel3 w hbel2.out)
      have hacc2 : Hid ((acc ++ text (ps.getD k [])) ++ (ps.drop (k + 1)).flatMap text = pack ps) := by rw [← hacc.out, hdf.out, List.append_assoc]; rfl
      have hal2 : Hid ((acc ++ text (ps.getD k [])).length ≤ 9 + (k + 1) * 100009) := by
        have := hal.out; have := htl.out; have := hp.out
        show _ ≤ _
        rw [List.length_append]; omega
      clear hown3 hgrow hbel3 hacc hal htl
      go_wp2
      go_roundw
      case rel => exact ⟨k + 1, _, by omega, by go_num, hacc2, hal2, Hown3, Hbel3⟩
      case measure => simp [intOf]; omega
    · have hkl : k = n := by omega
      subst hkl
      have hE : Hid (acc = pack ps) := by have h2 := hacc.out; rw [List.drop_of_length_le (by rw [hl.out]; exact Nat.le_refl _)] at h2; refine hide ?_; simpa using h2
      have hown2 : Hid (Own w.heap.size wr u3 (pack ps)) := by rw [← hE.out]; exact hown
      clear hown
      go_wp2
      go_ret
      exact ⟨_, rfl, hown2.out, hbel.out⟩
end Go.Proofs.YtkbbegbpkndebaaGreat

namespace Go.Proofs.YtkbbegbpkndebaaGreat
open Go.RowKit
set_option linter.unusedVariables false
end Go.Proofs.YtkbbegbpkndebaaGreat

namespace Go.Proofs.YtkbbegbpkndebaaGreat
open Go.RowKit
set_option linter.unusedVariables false
end Go.Proofs.YtkbbegbpkndebaaGreat

namespace Go.Proofs.YtkbbegbpkndebaaGreat
open Go.RowKit
set_option linter.unusedVariables false
theorem PC.newT (w : World) (g : Nat) (hg : g = w.heap.size) (qs : List (Value × List Int)) (C : Array Value) (hC : C = (qs.map (·.1)).toArray) (t : TypeId) (fr : Nat × Nat) (n : Nat) (hn : qs.length = n) (hmax : n ≤ maxLen) (h : ∀ q ∈ qs, TX w q.1 q.2) :
    PC (w.alloc (.cells C t fr)) (some ⟨g, 0, none⟩) n (qs.map (·.2)) := by
  subst hg hC hn
  refine ⟨by simp, hmax, .inr ⟨_, 0, rfl, fun i hi => ?_⟩⟩
  have hq : qs[i]? = some qs[i] := List.getElem?_eq_getElem hi
  obtain ⟨p, m, c, h1, h2, h3⟩ := h qs[i] (List.getElem_mem hi)
  refine ⟨p, m, c, ?_, ?_, h3⟩
  · rw [World.cell?_alloc_mark, Nat.zero_add]
    simp [hq, h1]
  · have e : (qs.map (·.2)).getD i [] = qs[i].2 := by simp [List.getD_eq_getElem?_getD, hq]
    rw [e]
    exact h2.alloc _
end Go.Proofs.YtkbbegbpkndebaaGreat

namespace Go.Proofs.YtkbbegbpkndebaaGreat
open Go.RowKit
set_option linter.unusedVariables false
end Go.Proofs.YtkbbegbpkndebaaGreat

namespace Go.Proofs.YtkbbegbpkndebaaGreat
open Go.RowKit
set_option linter.unusedVariables false
end Go.Proofs.YtkbbegbpkndebaaGreat

namespace Go.Proofs.YtkbbegbpkndebaaGreat
open Go.RowKit
end Go.Proofs.YtkbbegbpkndebaaGreat

