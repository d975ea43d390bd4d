/- What 'getSize' does: a body's number, or whether bytes end within it. -/
import Derived.Test.YtgmimneendnfgaaWAwake
namespace Go.Proofs.Ytgmimneendnfgaa
open Go.RowKit
set_option linter.unusedVariables false

/-- The size, how many bytes its number has, and the error. -/
def getSize : List Int → Int × Nat × Int
  | [] => (0, 0, 3)
  | c :: q =>
    if 3 < c ∨ ¬ nz (q.take c.toNat) ∨ 65536 < val (q.take c.toNat) * 256 ^ (c.toNat - q.length) then (0, 0, 2)
    else if q.length < c.toNat then (0, 0, 3) else (val (q.take c.toNat), 1 + c.toNat, 0)

theorem ahead_as (a : Option Addr) (n c : Nat) (l : List Int) (w : World) (r : Bool) (hr : decide (¬ nz l) = r) (hA : BS w a n l) :
    Calls Try.prog 31 #[.slice a n c] w fun e w' => e = .returned (.bool r) ∧ w' = w := by
  rw [← hr]; exact ahead_any a n c l w hA
theorem value_as (a : Option Addr) (n c : Nat) (l : List Int) (w : World) (x : Int) (hx : val l = x) (hA : BS w a n l) (h8 : n ≤ 8) :
    Calls Try.prog 32 #[.slice a n c] w fun e w' => e = .returned (.int .u64 x) ∧ w' = w := by
  rw [← hx]; exact value_any a n c l w hA h8

theorem pow3 (k : Nat) (h : k ≤ 3) : (256 : Int) ^ k ≤ 16777216 := by
  have h8 : k = 0 ∨ k = 1 ∨ k = 2 ∨ k = 3 := by omega
  rcases h8 with rfl | rfl | rfl | rfl <;> decide

set_option maxHeartbeats 4000000 in
set_option maxRecDepth 100000 in
theorem getSize_any (a : Option Addr) (n c : Nat) (l : List Int) (w : World) (hA : BS w a n l) (hC : CP a n c) :
    Calls Try.prog 36 #[.slice a n c] w fun e w' => e = .returned (.tuple #[.int .i64 (getSize l).1, .int .i64 ((getSize l).2.1 : Int), .int .i64 (getSize l).2.2]) ∧ w' = w := by
  rcases l with _ | ⟨y, q⟩
  · have hn : n = 0 := by have := hA.1; simpa using this.symm
    subst hn
    go_enter Try.func36, Try.ntmps36
    go_wp2
    go_ret3
    exact ⟨rfl, rfl⟩
  · have HA := hide hA
    have HB : Hid (By q) := By.tail hA.2.2.1
    obtain ⟨b, o, rfl, qc, hy0, hy1, hn⟩ := hA.cell0
    have hn0 : ((n : Int) == 0) = false := by simp; omega
    have hmax := hA.2.1
    unfold maxLen at hmax
    have hmaxI : (n : Int) ≤ 9223372036854775807 := by omega
    obtain ⟨k, rfl⟩ := Int.eq_ofNat_of_zero_le hy0
    have hGS : Hid (getSize ((k : Int) :: q) = if 3 < (k : Int) ∨ ¬ nz (q.take k) ∨ 65536 < val (q.take k) * 256 ^ (k - q.length) then (0, 0, 2) else if q.length < k then (0, 0, 3) else (val (q.take k), 1 + k, 0)) := rfl
    have hql : q.length = n - 1 := by omega
    have Hql := hide hql
    have hnp : (0 : Int) < n := by omega
    have hcn : (n : Int) ≤ c := by have := hC.1; omega
    have hcm : (c : Int) ≤ 9223372036854775807 := by have := hC.2.1; unfold maxLen at this; omega
    clear hA hn hql hmax hC
    by_cases h3 : (3 : Int) < k
    · have hres : Hid (getSize ((k : Int) :: q) = (0, 0, 2)) := by refine hide ?_; rw [hGS.out, if_pos (.inl h3)]
      clear hGS
      go_enter Try.func36, Try.ntmps36
      go_wp2
      go_ret3
      rw [hres.out]
      exact ⟨rfl, rfl⟩
    · by_cases hfull : k + 1 ≤ n
      · have hql2 : ¬ q.length < k := by have := Hql.out; omega
        have hj0 : k - q.length = 0 := by omega
        rw [hj0, if_neg hql2] at hGS
        have hk3 : (k : Int) ≤ 3 := by omega
        have hmn : (k : Int) + 1 ≤ (n : Int) := by omega
        have hmin : min (1 + (k : Int)) (n : Int) = 1 + (k : Int) := by omega
        have hkc : 1 + (k : Int) ≤ (c : Int) := by omega
        clear hql2 hj0 h3
        by_cases hc1 : c = 1
        · subst hc1
          have hn1 : n = 1 := by omega
          have hk0 : k = 0 := by omega
          subst hn1 hk0
          have hres : Hid (getSize (((0 : Nat) : Int) :: q) = (0, 1, 0)) := by
            refine hide ?_
            rw [hGS.out, if_neg]
            · rfl
            · rintro (h | h | h)
              · omega
              · exact h (by decide : nz [])
              · simp [val] at h
          clear hGS
          go_enter Try.func36, Try.ntmps36
          go_wp2_with fail
          refine (ahead_as _ 0 _ [] w false (by decide) (BS.nil _ _)).mono ?_
          rintro e w' ⟨rfl, rfl⟩
          go_wp2_with fail
          refine (value_as _ 0 _ [] w' 0 rfl (BS.nil _ _) (by omega)).mono ?_
          rintro e w' ⟨rfl, rfl⟩
          go_wp2_with fail
          refine (value_as _ 0 _ [] w' 0 rfl (BS.nil _ _) (by omega)).mono ?_
          rintro e w' ⟨rfl, rfl⟩
          go_wp2
          go_ret3
          exact ⟨by have := hres.out; simp at this; simp [this], rfl⟩
        · have hbs : Hid (BS w (some ⟨b, o + 1, none⟩) k (q.take k)) := HA.out.at 1 k (by omega)
          have hvb := val_bd (q.take k) (By.take HB.out k)
          have hlk : (q.take k).length = k := by rw [List.length_take]; have := Hql.out; omega
          rw [hlk] at hvb
          have hv0 := hvb.1
          have hv1 : val (q.take k) < 16777216 := by have := pow3 k (by omega); omega
          have H8 : Hid (k ≤ 8) := by show k ≤ 8; omega
          obtain ⟨x, hx⟩ : ∃ x, val (q.take k) = x := ⟨_, rfl⟩
          rw [hx] at hv0 hv1 hGS
          have Hx := hide hx
          clear hvb hlk hx
          by_cases hz : nz (q.take k)
          · have Hz := hide (show decide (¬ nz (q.take k)) = false from decide_eq_false (fun h => h hz))
            by_cases hbig : 65536 < x
            · have hres : Hid (getSize ((k : Int) :: q) = (0, 0, 2)) := by refine hide ?_; rw [hGS.out, if_pos (.inr (.inr (by omega)))]
              clear hGS hz
              go_enter Try.func36, Try.ntmps36
              go_wp2_with fail
              refine (ahead_as _ _ _ (q.take k) w false Hz.out hbs.out).mono ?_
              rintro e w' ⟨rfl, rfl⟩
              go_wp2_with fail
              refine (value_as _ _ _ (q.take k) w' x Hx.out hbs.out H8.out).mono ?_
              rintro e w' ⟨rfl, rfl⟩
              go_wp2
              go_ret3
              rw [hres.out]
              exact ⟨rfl, rfl⟩
            · have hres : Hid (getSize ((k : Int) :: q) = (x, 1 + k, 0)) := by
                refine hide ?_
                rw [hGS.out, if_neg]
                rintro (h | h | h)
                · omega
                · exact h hz
                · omega
              have hnb : ¬ 65536 < x := hbig
              clear hGS hz hbig
              go_enter Try.func36, Try.ntmps36
              go_wp2_with fail
              refine (ahead_as _ _ _ (q.take k) w false Hz.out hbs.out).mono ?_
              rintro e w' ⟨rfl, rfl⟩
              go_wp2_with fail
              refine (value_as _ _ _ (q.take k) w' x Hx.out hbs.out H8.out).mono ?_
              rintro e w' ⟨rfl, rfl⟩
              go_wp2_with fail
              refine (value_as _ _ _ (q.take k) w' x Hx.out hbs.out H8.out).mono ?_
              rintro e w' ⟨rfl, rfl⟩
              go_wp2
              go_ret3
              rw [hres.out]
              exact ⟨by simp, rfl⟩
          · have hres : Hid (getSize ((k : Int) :: q) = (0, 0, 2)) := by refine hide ?_; rw [hGS.out, if_pos (.inr (.inl hz))]
            have Hz := hide (show decide (¬ nz (q.take k)) = true from decide_eq_true hz)
            clear hGS hz
            go_enter Try.func36, Try.ntmps36
            go_wp2_with fail
            refine (ahead_as _ _ _ (q.take k) w true Hz.out hbs.out).mono ?_
            rintro e w' ⟨rfl, rfl⟩
            go_wp2
            go_ret3
            rw [hres.out]
            exact ⟨rfl, rfl⟩
      · have hql2 : q.length < k := by have := Hql.out; omega
        have htk : q.take k = q := List.take_of_length_le (by omega)
        rw [htk, if_pos hql2] at hGS
        have hk3 : k ≤ 3 := by omega
        clear h3 htk
        by_cases hn1 : n = 1
        · subst hn1
          obtain rfl : q = [] := List.eq_nil_of_length_eq_zero Hql.out
          have hres : Hid (getSize ((k : Int) :: []) = (0, 0, 3)) := by
            refine hide ?_
            rw [hGS.out, if_neg]
            rintro (h | h | h)
            · omega
            · exact h (by decide : nz [])
            · simp [val] at h
          clear hGS
          have h3 : k = 1 ∨ k = 2 ∨ k = 3 := by simp at hql2; omega
          by_cases hc1 : c = 1
          · subst hc1
            rcases h3 with rfl | rfl | rfl
            all_goals
              go_enter Try.func36, Try.ntmps36
              go_wp2_with fail
              refine (ahead_as _ 0 _ [] w false (by decide) (BS.nil _ _)).mono ?_
              rintro e w' ⟨rfl, rfl⟩
              go_wp2_with fail
              refine (value_as _ 0 _ [] w' 0 rfl (BS.nil _ _) (by omega)).mono ?_
              rintro e w' ⟨rfl, rfl⟩
              go_wp2
              go_ret3
              exact ⟨by have := hres.out; simp at this; simp [this], rfl⟩
          · rcases h3 with rfl | rfl | rfl
            all_goals
              go_enter Try.func36, Try.ntmps36
              go_wp2_with fail
              refine (ahead_as _ 0 _ [] w false (by decide) (BS.nil _ _)).mono ?_
              rintro e w' ⟨rfl, rfl⟩
              go_wp2_with fail
              refine (value_as _ 0 _ [] w' 0 rfl (BS.nil _ _) (by omega)).mono ?_
              rintro e w' ⟨rfl, rfl⟩
              go_wp2
              go_ret3
              exact ⟨by have := hres.out; simp at this; simp [this], rfl⟩
        · have hnk : (n = 2 ∧ k = 2) ∨ (n = 2 ∧ k = 3) ∨ (n = 3 ∧ k = 3) := by have := Hql.out; omega
          have hbs : Hid (BS w (some ⟨b, o + 1, none⟩) (n - 1) q) := by
            have h1 := HA.out.at 1 (n - 1) (by omega)
            have h2 : ((((k : Int) :: q).drop 1).take (n - 1)) = q := by
              show q.take (n - 1) = q
              exact List.take_of_length_le (by rw [Hql.out]; exact Nat.le_refl _)
            rw [h2] at h1
            exact h1
          have hvb := val_bd q HB.out
          rw [Hql.out] at hvb
          obtain ⟨x, hx⟩ : ∃ x, val q = x := ⟨_, rfl⟩
          rw [hx] at hvb hGS
          have hv0 := hvb.1
          have Hx := hide hx
          have Hv1 := hide hvb.2
          clear hx hvb
          rw [Hql.out] at hGS
          have hc1 : ¬ c = 1 := by omega
          clear hn1 hfull hql2 hk3 hmaxI hnp
          rcases hnk with ⟨rfl, rfl⟩ | ⟨rfl, rfl⟩ | ⟨rfl, rfl⟩
          · have hv1 : x < 256 := Hv1.out
            have hpw : Hid ((256 : Int) ^ (2 - (2 - 1)) = 256) := rfl
            obtain ⟨y, hy⟩ : ∃ y, x * 256 = y := ⟨_, rfl⟩
            have hy0 : 0 ≤ y := by omega
            have hy1 : y < 16777216 := by omega
            have Hy := hide hy
            by_cases hz : nz q
            · have Hz := hide (show decide (¬ nz q) = false from decide_eq_false (fun h => h hz))
              by_cases hbig : 65536 < y
              · have hres : Hid (getSize (((2 : Nat) : Int) :: q) = (0, 0, 2)) := by refine hide ?_; rw [hGS.out, if_pos (.inr (.inr (by rw [hpw.out, Hy.out]; exact hbig)))]
                have HY := hide (And.intro hy hbig)
                clear hGS hz hy hbig hy0 hy1
                go_enter Try.func36, Try.ntmps36
                go_wp2_with fail
                refine (ahead_as _ _ _ q w false Hz.out hbs.out).mono ?_
                rintro e w' ⟨rfl, rfl⟩
                go_wp2_with fail
                refine (value_as _ _ _ q w' x Hx.out hbs.out (by omega)).mono ?_
                rintro e w' ⟨rfl, rfl⟩
                obtain ⟨hy, hbig⟩ := unhide HY
                go_wp2
                go_ret3
                exact ⟨by have := hres.out; simp at this; simp [this], rfl⟩
              · have hres : Hid (getSize (((2 : Nat) : Int) :: q) = (0, 0, 3)) := by
                  refine hide ?_
                  rw [hGS.out, if_neg]
                  rintro (h | h | h)
                  · omega
                  · exact h hz
                  · rw [hpw.out, Hy.out] at h; exact hbig h
                have HY := hide (And.intro hy hbig)
                clear hGS hz hy hbig hy0 hy1
                go_enter Try.func36, Try.ntmps36
                go_wp2_with fail
                refine (ahead_as _ _ _ q w false Hz.out hbs.out).mono ?_
                rintro e w' ⟨rfl, rfl⟩
                go_wp2_with fail
                refine (value_as _ _ _ q w' x Hx.out hbs.out (by omega)).mono ?_
                rintro e w' ⟨rfl, rfl⟩
                obtain ⟨hy, hbig⟩ := unhide HY
                go_wp2
                go_ret3
                exact ⟨by have := hres.out; simp at this; simp [this], rfl⟩
            · have Hz := hide (show decide (¬ nz q) = true from decide_eq_true hz)
              have hres : Hid (getSize (((2 : Nat) : Int) :: q) = (0, 0, 2)) := by refine hide ?_; rw [hGS.out, if_pos (.inr (.inl hz))]
              clear hGS hz
              go_enter Try.func36, Try.ntmps36
              go_wp2_with fail
              refine (ahead_as _ _ _ q w true Hz.out hbs.out).mono ?_
              rintro e w' ⟨rfl, rfl⟩
              go_wp2
              go_ret3
              exact ⟨by have := hres.out; simp at this; simp [this], rfl⟩
          · have hv1 : x < 256 := Hv1.out
            have hpw : Hid ((256 : Int) ^ (3 - (2 - 1)) = 65536) := rfl
            obtain ⟨y, hy⟩ : ∃ y, x * 65536 = y := ⟨_, rfl⟩
            have hy0 : 0 ≤ y := by omega
            have hy1 : y < 16777216 := by omega
            have Hy := hide hy
            by_cases hz : nz q
            · have Hz := hide (show decide (¬ nz q) = false from decide_eq_false (fun h => h hz))
              by_cases hbig : 65536 < y
              · have hres : Hid (getSize (((3 : Nat) : Int) :: q) = (0, 0, 2)) := by refine hide ?_; rw [hGS.out, if_pos (.inr (.inr (by rw [hpw.out, Hy.out]; exact hbig)))]
                have HY := hide (And.intro hy hbig)
                clear hGS hz hy hbig hy0 hy1
                go_enter Try.func36, Try.ntmps36
                go_wp2_with fail
                refine (ahead_as _ _ _ q w false Hz.out hbs.out).mono ?_
                rintro e w' ⟨rfl, rfl⟩
                go_wp2_with fail
                refine (value_as _ _ _ q w' x Hx.out hbs.out (by omega)).mono ?_
                rintro e w' ⟨rfl, rfl⟩
                obtain ⟨hy, hbig⟩ := unhide HY
                go_wp2
                go_ret3
                exact ⟨by have := hres.out; simp at this; simp [this], rfl⟩
              · have hres : Hid (getSize (((3 : Nat) : Int) :: q) = (0, 0, 3)) := by
                  refine hide ?_
                  rw [hGS.out, if_neg]
                  rintro (h | h | h)
                  · omega
                  · exact h hz
                  · rw [hpw.out, Hy.out] at h; exact hbig h
                have HY := hide (And.intro hy hbig)
                clear hGS hz hy hbig hy0 hy1
                go_enter Try.func36, Try.ntmps36
                go_wp2_with fail
                refine (ahead_as _ _ _ q w false Hz.out hbs.out).mono ?_
                rintro e w' ⟨rfl, rfl⟩
                go_wp2_with fail
                refine (value_as _ _ _ q w' x Hx.out hbs.out (by omega)).mono ?_
                rintro e w' ⟨rfl, rfl⟩
                obtain ⟨hy, hbig⟩ := unhide HY
                go_wp2
                go_ret3
                exact ⟨by have := hres.out; simp at this; simp [this], rfl⟩
            · have Hz := hide (show decide (¬ nz q) = true from decide_eq_true hz)
              have hres : Hid (getSize (((3 : Nat) : Int) :: q) = (0, 0, 2)) := by refine hide ?_; rw [hGS.out, if_pos (.inr (.inl hz))]
              clear hGS hz
              go_enter Try.func36, Try.ntmps36
              go_wp2_with fail
              refine (ahead_as _ _ _ q w true Hz.out hbs.out).mono ?_
              rintro e w' ⟨rfl, rfl⟩
              go_wp2
              go_ret3
              exact ⟨by have := hres.out; simp at this; simp [this], rfl⟩
          · have hv1 : x < 65536 := Hv1.out
            have hpw : Hid ((256 : Int) ^ (3 - (3 - 1)) = 256) := rfl
            obtain ⟨y, hy⟩ : ∃ y, x * 256 = y := ⟨_, rfl⟩
            have hy0 : 0 ≤ y := by omega
            have hy1 : y < 16777216 := by omega
            have Hy := hide hy
            by_cases hz : nz q
            · have Hz := hide (show decide (¬ nz q) = false from decide_eq_false (fun h => h hz))
              by_cases hbig : 65536 < y
              · have hres : Hid (getSize (((3 : Nat) : Int) :: q) = (0, 0, 2)) := by refine hide ?_; rw [hGS.out, if_pos (.inr (.inr (by rw [hpw.out, Hy.out]; exact hbig)))]
                have HY := hide (And.intro hy hbig)
                clear hGS hz hy hbig hy0 hy1
                go_enter Try.func36, Try.ntmps36
                go_wp2_with fail
                refine (ahead_as _ _ _ q w false Hz.out hbs.out).mono ?_
                rintro e w' ⟨rfl, rfl⟩
                go_wp2_with fail
                refine (value_as _ _ _ q w' x Hx.out hbs.out (by omega)).mono ?_
                rintro e w' ⟨rfl, rfl⟩
                obtain ⟨hy, hbig⟩ := unhide HY
                go_wp2
                go_ret3
                exact ⟨by have := hres.out; simp at this; simp [this], rfl⟩
              · have hres : Hid (getSize (((3 : Nat) : Int) :: q) = (0, 0, 3)) := by
                  refine hide ?_
                  rw [hGS.out, if_neg]
                  rintro (h | h | h)
                  · omega
                  · exact h hz
                  · rw [hpw.out, Hy.out] at h; exact hbig h
                have HY := hide (And.intro hy hbig)
                clear hGS hz hy hbig hy0 hy1
                go_enter Try.func36, Try.ntmps36
                go_wp2_with fail
                refine (ahead_as _ _ _ q w false Hz.out hbs.out).mono ?_
                rintro e w' ⟨rfl, rfl⟩
                go_wp2_with fail
                refine (value_as _ _ _ q w' x Hx.out hbs.out (by omega)).mono ?_
                rintro e w' ⟨rfl, rfl⟩
                obtain ⟨hy, hbig⟩ := unhide HY
                go_wp2
                go_ret3
                exact ⟨by have := hres.out; simp at this; simp [this], rfl⟩
            · have Hz := hide (show decide (¬ nz q) = true from decide_eq_true hz)
              have hres : Hid (getSize (((3 : Nat) : Int) :: q) = (0, 0, 2)) := by refine hide ?_; rw [hGS.out, if_pos (.inr (.inl hz))]
              clear hGS hz
              go_enter Try.func36, Try.ntmps36
              go_wp2_with fail
              refine (ahead_as _ _ _ q w true Hz.out hbs.out).mono ?_
              rintro e w' ⟨rfl, rfl⟩
              go_wp2
              go_ret3
              exact ⟨by have := hres.out; simp at this; simp [this], rfl⟩
end Go.Proofs.Ytgmimneendnfgaa
