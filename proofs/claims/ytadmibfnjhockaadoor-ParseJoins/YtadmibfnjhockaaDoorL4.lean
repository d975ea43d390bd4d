/- Digits of the document (layer 14). -/
import Derived.Test.YtadmibfnjhockaaDoorL3
namespace Go.Proofs.YtadmibfnjhockaaDoor
open Go.RowKit Go.Lib
set_option linter.unusedVariables false
theorem str_app (a b : List Int) : strOfNums a ++ strOfNums b = strOfNums (a ++ b) := by
  apply ByteArray.ext
  unfold strOfNums
  simp [ByteArray.data_append]
theorem digU_fuel : ∀ (f g n : Nat), n < 10 ^ f → n < 10 ^ g → 0 < f → 0 < g → digU f n = digU g n
  | 0, g, n, h, _, hf, _ => by omega
  | f + 1, 0, n, _, _, _, hg => by omega
  | f + 1, g + 1, n, h1, h2, _, _ => by
    unfold digU
    split
    · rfl
    · next h =>
      rw [Nat.pow_succ] at h1 h2
      have hf : 0 < f := by
        rcases f with _ | f
        · simp at h1; omega
        · omega
      have hg : 0 < g := by
        rcases g with _ | g
        · simp at h2; omega
        · omega
      rw [digU_fuel f g (n / 10) (by omega) (by omega) hf hg]
theorem digU_lo {n : Nat} (h : n < 10) : digU 5 n = [48 + (n : Int)] := by
  unfold digU
  rw [if_pos h]
theorem digU_up {n : Nat} (h : 10 ≤ n) (h2 : n ≤ 99999) : digU 5 n = digU 5 (n / 10) ++ digU 5 (n % 10) := by
  rw [digU_lo (show n % 10 < 10 by omega), show digU 5 n = digU 4 (n / 10) ++ [48 + ((n % 10 : Nat) : Int)] from by rw [show (5 : Nat) = 4 + 1 from rfl, digU, if_neg (by omega)], digU_fuel 4 5 (n / 10) (by omega) (by omega) (by omega) (by omega)]
theorem digU_len : ∀ (f n : Nat), (digU f n).length ≤ f
  | 0, n => Nat.le_refl _
  | f + 1, n => by
    unfold digU
    split
    · simp
    · have := digU_len f (n / 10)
      simp
      omega
theorem digS_size (l : List Int) : (strOfNums l).size = l.length := by unfold strOfNums; simp [ByteArray.size]
set_option maxHeartbeats 1000000 in
theorem dig_lo (n : Nat) (w : World) (h2 : n < 10) : Calls Tryd.prog 38 #[.int .i64 (n : Int)] w fun e w' => e = .returned (.string (strOfNums (digU 5 n))) ∧ Below w.heap.size w w' := by
  rcases (by omega : n = 0 ∨ n = 1 ∨ n = 2 ∨ n = 3 ∨ n = 4 ∨ n = 5 ∨ n = 6 ∨ n = 7 ∨ n = 8 ∨ n = 9) with rfl | rfl | rfl | rfl | rfl | rfl | rfl | rfl | rfl | rfl <;>
  · go_enter Tryd.func38, Tryd.ntmps38
    go_wp2
    go_ret
    exact ⟨by kernel_rfl, bel1 _ _⟩
set_option maxHeartbeats 1000000 in
theorem dig_up : ∀ (n : Nat), n ≤ 99999 → ∀ w : World, Calls Tryd.prog 38 #[.int .i64 (n : Int)] w fun e w' => e = .returned (.string (strOfNums (digU 5 n))) ∧ Below w.heap.size w w' := by
  intro n
  induction n using Nat.strongRecOn with
  | _ n ih =>
    intro hn w
    by_cases h10 : n < 10
    · exact dig_lo n w h10
    have HD : Hid (∀ (k : Nat) (W : World), k < n → Calls Tryd.prog 38 #[.int .i64 (k : Int)] W fun e w' => e = .returned (.string (strOfNums (digU 5 k))) ∧ Below W.heap.size W w') := fun k W hk => ih k hk (by omega) W
    clear ih
    have HR : Hid (strOfNums (digU 5 (n / 10)) ++ strOfNums (digU 5 (n % 10)) = strOfNums (digU 5 n)) := by unfold Hid; rw [str_app, ← digU_up (by omega) hn]
    obtain ⟨m, hm⟩ : ∃ m, n / 10 = m := ⟨_, rfl⟩
    obtain ⟨r, hr⟩ : ∃ r, n % 10 = r := ⟨_, rfl⟩
    rw [hm, hr] at HR
    have hq : (n : Int) / 10 = (m : Int) := by omega
    have hz : (n : Int) % 10 = (r : Int) := by omega
    have hmn : m < n := by omega
    have hrn : r < n := by omega
    have hsz : (strOfNums (digU 5 m)).size + (strOfNums (digU 5 r)).size ≤ 9223372036854775807 := by
      rw [digS_size, digS_size]
      have := digU_len 5 m
      have := digU_len 5 r
      omega
    have e1 : ¬ (n : Int) ≤ -10 := by omega
    have e2 : ¬ (n : Int) < 0 := by omega
    have e3 : ¬ (n : Int) < 10 := by omega
    have HB := hide (Below.refl w.heap.size w)
    clear hm hr
    go_enter Tryd.func38, Tryd.ntmps38
    go_wp2_with (go_at_call 38; refine (HD.out _ _ (by omega)).mono ?_; rintro e wd ⟨rfl, hb⟩; replace HB := hide (bel_next HB.out hb); clear hb)
    go_ret
    exact ⟨by rw [← HR.out]; rfl, HB.out⟩
set_option maxHeartbeats 1000000 in
theorem dig_neg : ∀ (n : Nat), 1 ≤ n → n ≤ 99999 → ∀ w : World, Calls Tryd.prog 38 #[.int .i64 (-(n : Int))] w fun e w' => e = .returned (.string (strOfNums (45 :: digU 5 n))) ∧ Below w.heap.size w w' := by
  intro n
  induction n using Nat.strongRecOn with
  | _ n ih =>
    intro h1 hn w
    by_cases h10 : n < 10
    · have HD := hide (fun W => dig_lo n W h10)
      have e1 : ¬ -(n : Int) ≤ -10 := by omega
      have e2 : -(n : Int) < 0 := by omega
      have hsz : (⟨#[45]⟩ : ByteArray).size + (strOfNums (digU 5 n)).size ≤ 9223372036854775807 := by
        rw [digS_size]
        have := digU_len 5 n
        show 1 + _ ≤ _
        omega
      have HR : Hid ((⟨#[45]⟩ : ByteArray) ++ strOfNums (digU 5 n) = strOfNums (45 :: digU 5 n)) := str_app [45] (digU 5 n)
      go_enter Tryd.func38, Tryd.ntmps38
      go_wp2_with (go_at_call 38; refine (HD.out _).mono ?_; rintro e wd ⟨rfl, hb⟩)
      go_ret
      exact ⟨by rw [← HR.out]; rfl, hb⟩
    have HD : Hid (∀ (k : Nat) (W : World), 1 ≤ k → k < n → Calls Tryd.prog 38 #[.int .i64 (-(k : Int))] W fun e w' => e = .returned (.string (strOfNums (45 :: digU 5 k))) ∧ Below W.heap.size W w') := fun k W h1 hk => ih k hk h1 (by omega) W
    clear ih
    obtain ⟨m, hm⟩ : ∃ m, n / 10 = m := ⟨_, rfl⟩
    obtain ⟨r, hr⟩ : ∃ r, n % 10 = r := ⟨_, rfl⟩
    have e4 : digs (-(m : Int)) = 45 :: digU 5 m := by unfold digs; rw [if_pos (by omega), show (-(m : Int)).natAbs = m by omega]
    have e5 : digs (r : Int) = digU 5 r := by unfold digs; rw [if_neg (by omega), show ((r : Int)).toNat = r by omega]
    have HZ : Hid (∀ (z : Int) (W : World), z = -(m : Int) ∨ z = (r : Int) → Calls Tryd.prog 38 #[.int .i64 z] W fun e w' => e = .returned (.string (strOfNums (digs z))) ∧ Below W.heap.size W w') := fun z W hz => by
      rcases hz with rfl | rfl
      · rw [e4]; exact HD.out m W (by omega) (by omega)
      · rw [e5]; exact dig_lo r W (by omega)
    have HR : Hid (strOfNums (digs (-(m : Int))) ++ strOfNums (digs (r : Int)) = strOfNums (45 :: digU 5 n)) := by unfold Hid; rw [e4, e5, str_app, List.cons_append, ← hm, ← hr, ← digU_up (by omega) hn]
    have hsz : (strOfNums (digs (-(m : Int)))).size + (strOfNums (digs (r : Int))).size ≤ 9223372036854775807 := by
      rw [e4, e5, digS_size, digS_size, List.length_cons]
      have := digU_len 5 m
      have := digU_len 5 r
      omega
    have hq : (n : Int) / 10 = (m : Int) := by omega
    have hz : (n : Int) % 10 = (r : Int) := by omega
    have e1 : -(n : Int) ≤ -10 := by omega
    have HB := hide (Below.refl w.heap.size w)
    clear hm hr HD e4 e5
    go_enter Tryd.func38, Tryd.ntmps38
    go_wp2_with (go_at_call 38; refine (HZ.out _ _ (by omega)).mono ?_; rintro e wd ⟨rfl, hb⟩; replace HB := hide (bel_next HB.out hb); clear hb)
    go_ret
    exact ⟨by rw [← HR.out]; rfl, HB.out⟩
/-- The digits of any number that may be. -/
theorem Digits14 (n : Int) (w : World) (h : -9999 ≤ n ∧ n ≤ 9999) : Calls Tryd.prog 38 #[.int .i64 n] w fun e w' => e = .returned (.string (strOfNums (digs n))) ∧ Below w.heap.size w w' := by
  unfold digs
  by_cases h0 : n < 0
  · rw [if_pos h0]
    obtain ⟨k, rfl⟩ : ∃ k : Nat, n = -(k : Int) := ⟨n.natAbs, by omega⟩
    rw [show (-(k : Int)).natAbs = k by omega]
    exact dig_neg k (by omega) (by omega) w
  · rw [if_neg h0]
    obtain ⟨k, rfl⟩ : ∃ k : Nat, n = (k : Int) := ⟨n.toNat, by omega⟩
    rw [show ((k : Int)).toNat = k by omega]
    exact dig_up k (by omega) w
end Go.Proofs.YtadmibfnjhockaaDoor
