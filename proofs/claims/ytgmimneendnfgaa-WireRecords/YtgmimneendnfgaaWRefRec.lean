/- What the document's 'within' and 'GetRecord' do. -/
import Derived.Test.YtgmimneendnfgaaWRefRecM
namespace Go.Proofs.Ytgmimneendnfgaa
open Go.RowKit
set_option linter.unusedVariables false

theorem within_cons (k : Nat) (q : List Int) : within ((k : Int) :: q) = if 8 < (k : Int) ∨ k < q.length + 1 then false else decide (val (fill k q) ≤ 65536 ∧ q.length + 1 ≤ (num (val (fill k q))).length ∧ (num (val (fill k q))).take (q.length + 1) = (k : Int) :: q) := rfl
theorem refNum_as (x : Int) (w : World) (h0 : 0 ≤ x) (h1 : x < 18446744073709551616) :
    Calls Try.prog 15 #[.int .u64 x] w fun e w' => ∃ p c, e = .returned (.slice p (num x).length c) ∧ BS w' p (num x).length (num x) ∧ CP p (num x).length c ∧ Below w.heap.size w w' := by
  refine (refNum_any x w h0 h1).mono ?_
  rintro e w1 ⟨v, rfl, hown, hb⟩
  obtain ⟨p, c, rfl, hbs, hcp⟩ := hown.open (num_by x)
  exact ⟨p, c, rfl, hbs, hcp, hb⟩

set_option maxHeartbeats 4000000 in
set_option maxRecDepth 100000 in
theorem within_as (a : Option Addr) (n c : Nat) (l : List Int) (w : World) (r : Bool) (hr : within l = r) (hA : BS w a n l) (hC : CP a n c) :
    Calls Try.prog 38 #[.slice a n c] w fun e w' => e = .returned (.bool r) ∧ Below w.heap.size w w' := by
  rcases l with _ | ⟨y, q⟩
  · have hn : n = 0 := by have := hA.1; simpa using this.symm
    subst hn
    have : r = true := by rw [← hr]; rfl
    subst this
    clear hr
    go_enter Try.func38, Try.ntmps38
    go_wp2
    go_ret
    exact ⟨rfl, Below.refl _ _⟩
  · have HA := hide hA
    have HB : Hid (By q) := By.tail hA.2.2.1
    obtain ⟨b, o, rfl, qc, hy0, hy1, hn⟩ := hA.cell0
    have hn0 : ((n : Int) == 0) = false := by simp; omega
    have hmax := hA.2.1
    unfold maxLen at hmax
    have hmaxI : (n : Int) ≤ 9223372036854775807 := by omega
    obtain ⟨k, rfl⟩ := Int.eq_ofNat_of_zero_le hy0
    have hW := within_cons k q
    rw [hr] at hW
    have hql : q.length = n - 1 := by omega
    rw [← hn] at hW
    have HW := hide hW
    have Hql := hide hql
    have hnp : (0 : Int) < n := by omega
    have hcn := hC.1
    have hcm := hC.2.1
    unfold maxLen at hcm
    have hnc : (n : Int) ≤ (c : Int) := by omega
    have HC := hide hC
    clear hA hn hql hW hr hC hmax
    by_cases h8 : (8 : Int) < k
    · have : r = false := by rw [HW.out, if_pos (.inl h8)]
      subst this
      go_enter Try.func38, Try.ntmps38
      go_wp2
      go_ret
      exact ⟨rfl, Below.refl _ _⟩
    · have d8 : decide ((8 : Int) < k) = false := by simp; omega
      by_cases hlen : (k : Int) < (n : Int)
      · have : r = false := by rw [HW.out, if_pos (.inr (by omega))]
        subst this
        clear h8
        go_enter Try.func38, Try.ntmps38
        go_wp2
        go_ret
        exact ⟨rfl, Below.refl _ _⟩
      · have dl : decide ((k : Int) < (n : Int)) = false := by simp; omega
        have HW : Hid (r = decide (val (fill k q) ≤ 65536 ∧ n ≤ (num (val (fill k q))).length ∧ (num (val (fill k q))).take n = (k : Int) :: q)) := by refine hide ?_; rw [HW.out, if_neg (by omega)]
        have Hnk : Hid (n ≤ k) := by show n ≤ k; omega
        have Hk8 : Hid (k ≤ 8) := by show k ≤ 8; omega
        have hk8I : (k : Int) ≤ 8 := by omega
        have hnk : (n : Int) ≤ k := by omega
        have hfb := hide (fill_by HB.out k)
        clear h8 hlen
        go_enter Try.func38, Try.ntmps38
        go_wp2
        go_loop [3, 4] (fun u i => ∃ (j : Nat) (x : Int), 1 ≤ j ∧ j ≤ k + 1 ∧ i = .int .i64 j ∧ u = .int .u64 x ∧ 0 ≤ x ∧ x < 18446744073709551616 ∧ Hid (x = val ((fill k q).take (j - 1)))) (fun _ i => k + 1 - (intOf i).toNat)
        case atStart => exact ⟨1, 0, by omega, by omega, rfl, rfl, by omega, by omega, rfl⟩
        case round =>
          obtain ⟨j, x, hj1, hjk, rfl, rfl, hx0, hx1, hx⟩ := hrel
          by_cases hlt : (j : Int) ≤ (k : Int)
          · obtain ⟨i, rfl⟩ : ∃ i, j = i + 1 := ⟨j - 1, by omega⟩
            have hx : Hid (x = val ((fill k q).take i)) := hx
            have hik : i < k := by omega
            have hv := hide (val_take (fill k q) i (by rw [fill_len]; exact hik))
            rw [fill_at k q i hik] at hv
            have hx7 : x < 72057594037927936 := by
              have h1 := (val_bd ((fill k q).take i) (By.take hfb.out i)).2
              rw [← hx.out, List.length_take, fill_len] at h1
              have h2 := pow7 (min i k) (by have := Hk8.out; omega)
              omega
            by_cases hin : (i : Int) + 1 < (n : Int)
            · have hfl : Hid (fl q i = q.getD i 0) := by
                refine hide ?_
                unfold fl
                rw [if_pos (by have := Hql.out; omega)]
              have q2 : w.cell? ⟨b, o + (i + 1), none⟩ = some (.int .u8 (q.getD i 0)) := by
                rcases HA.out.2.2.2 with h0 | ⟨b', o', hh, hc⟩
                · omega
                · cases hh
                  exact hc (i + 1) (by omega)
              have hb0 := (getD_byte HB.out i).1
              have hb1 := (getD_byte HB.out i).2
              generalize q.getD i 0 = y at q2 hb0 hb1 hfl
              go_wp2
              go_round
              case rel => exact ⟨i + 1 + 1, x * 256 + y, by omega, by omega, by go_num, rfl, by omega, by omega, by show _ = val ((fill k q).take (i + 1)); rw [hv.out, hx.out, hfl.out]⟩
              case measure => simp [intOf]; omega
            · by_cases hi0 : i = 0
              · subst hi0
                have hfl : Hid (fl q 0 = 1) := by
                  refine hide ?_
                  unfold fl
                  rw [if_neg (by have := Hql.out; omega), if_pos rfl]
                go_wp2
                go_round
                case rel => exact ⟨0 + 1 + 1, x * 256 + 1, by omega, by omega, by go_num, rfl, by omega, by omega, by show _ = val ((fill k q).take (0 + 1)); rw [hv.out, hx.out, hfl.out]⟩
                case measure => simp [intOf]; omega
              · have hfl : Hid (fl q i = 0) := by
                  refine hide ?_
                  unfold fl
                  rw [if_neg (by have := Hql.out; omega), if_neg hi0]
                have hi1 : (((i : Int) + 1) == 1) = false := by simp; omega
                go_wp2
                go_round
                case rel => exact ⟨i + 1 + 1, x * 256, by omega, by omega, by go_num, by simp, by omega, by omega, by show _ = val ((fill k q).take (i + 1)); rw [hv.out, hx.out, hfl.out, Int.add_zero]⟩
                case measure => simp [intOf]; omega
          · have hjk2 : j = k + 1 := by omega
            subst hjk2
            have hx : Hid (x = val (fill k q)) := by
              have h1 := hx.out
              rw [List.take_of_length_le (by rw [fill_len]; omega)] at h1
              exact h1
            rw [← hx.out] at HW
            have dk : decide ((k : Int) + 1 ≤ (k : Int)) = false := by simp; omega
            clear hx hlt
            go_wp2_with fail
            refine (refNum_as x w hx0 hx1).mono ?_
            rintro e w1 ⟨p, cp, rfl, hbs, hcp, hb⟩
            have Hbs := hide hbs
            have Hb := hide hb
            have Hcp := hide hcp
            obtain ⟨N, hN⟩ : ∃ N, N = (num x).length := ⟨_, rfl⟩
            rw [← hN] at HW Hbs Hcp ⊢
            have hcN : (N : Int) ≤ (cp : Int) := by have := Hcp.out.1; omega
            have hcM : (cp : Int) ≤ 9223372036854775807 := by have := Hcp.out.2.1; unfold maxLen at this; omega
            clear hbs hb hcp hN
            by_cases hbig : x ≤ 65536
            · by_cases hNn : (n : Int) ≤ (N : Int)
              · have Hr : Hid (decide ((num x).take n = (k : Int) :: q) = r) := by
                  refine hide ?_
                  rw [HW.out]
                  apply decide_eq_decide.2
                  exact ⟨fun h => ⟨hbig, by omega, h⟩, fun h => h.2.2⟩
                have hnc2 : (n : Int) ≤ (cp : Int) := by omega
                have hh := hide (Hbs.out.head n (by omega))
                clear HW
                go_wp2_with fail
                refine (bytes_as _ _ _ _ _ _ ((num x).take n) ((k : Int) :: q) w1 r Hr.out hh.out (HA.out.below Hb.out)).mono ?_
                rintro e w2 ⟨rfl, hb2⟩
                have HZ := hide (Hb.out.trans (hb2.mono Hb.out.size))
                clear hb2
                cases r
                all_goals
                  go_wp2
                  go_ret
                  exact ⟨rfl, HZ.out⟩
              · have : r = false := by rw [HW.out]; exact decide_eq_false (by omega)
                subst this
                have d2 : decide ((n : Int) ≤ (N : Int)) = false := by simp; omega
                clear HW
                go_wp2
                go_ret
                exact ⟨rfl, Hb.out⟩
            · have : r = false := by rw [HW.out]; exact decide_eq_false (by omega)
              subst this
              have d2 : decide (x ≤ 65536) = false := by simp; omega
              clear HW
              go_wp2
              go_ret
              exact ⟨rfl, Hb.out⟩
end Go.Proofs.Ytgmimneendnfgaa
