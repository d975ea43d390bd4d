/- What 'mayBeRep', 'mayBeNumber', 'Check', the document's 'May', 'Get' and 'Same' do. -/
import Derived.Test.YtccpbkemiilgcaaCNum
import Derived.Deep.RegionHeld3
namespace Go.Proofs.Ytccpbkemiilgcaa
open Go.RowKit
set_option linter.unusedVariables false

theorem retB {a b : Bool} (h : a = b) : Ending.returned (.bool a) = .returned (.bool b) := by rw [h]

theorem mayRep_any (r : Int) (w : World) : Calls Try.prog 66 #[.int .i64 r] w fun e w' => e = .returned (.bool (decide (1 ≤ r ∧ r ≤ 5))) ∧ w' = w := by
  by_cases h1 : r ≥ 1
  · by_cases h2 : r ≤ 5
    · go_enter Try.func66, Try.ntmps66
      go_wp2
      go_ret
      exact ⟨retB (by simp; omega), rfl⟩
    · go_enter Try.func66, Try.ntmps66
      go_wp2
      go_ret
      exact ⟨retB (by simp; omega), rfl⟩
  · go_enter Try.func66, Try.ntmps66
    go_wp2
    go_ret
    exact ⟨retB (by simp; omega), rfl⟩

theorem mayNum_any (r : Int) (w : World) : Calls Try.prog 65 #[.int .i64 r] w fun e w' => e = .returned (.bool (inB r)) ∧ w' = w := by
  by_cases h1 : r ≥ 0
  · by_cases h2 : r ≤ 1048576
    · go_enter Try.func65, Try.ntmps65
      go_wp2
      go_ret
      exact ⟨retB (by simp [inB]; omega), rfl⟩
    · go_enter Try.func65, Try.ntmps65
      go_wp2
      go_ret
      exact ⟨retB (by simp [inB]; omega), rfl⟩
  · go_enter Try.func65, Try.ntmps65
    go_wp2
    go_ret
    exact ⟨retB (by simp [inB]; omega), rfl⟩

/-- 'Check', as a number. -/
def chk (c : List Int) : Int := if mayC c = true then 0 else 1

theorem all_drop {l : List Int} {k : Nat} (h : k < l.length) : (l.drop k).all inB = (inB (l.getD k 0) && (l.drop (k + 1)).all inB) := by
  rw [List.drop_eq_getElem_cons h, List.all_cons]
  simp [List.getD_eq_getElem?_getD, h]

set_option maxHeartbeats 400000 in
theorem check_any (a : Option Addr) (n cap : Nat) (c : List Int) (w : World) (hN : NS w a n c) :
    Calls Try.prog 53 #[.slice a n cap] w fun e w' => e = .returned (.int .i64 (chk c)) ∧ w' = w := by
  obtain ⟨hlen, hmax, hcells⟩ := hN
  unfold maxLen at hmax
  by_cases h5 : n > 5
  · have HE : Hid (1 = chk c) := by
      have : mayC c = false := by simp [mayC, hlen]; omega
      unfold Hid chk; simp [this]
    clear hlen hcells
    go_enter Try.func53, Try.ntmps53
    go_wp2
    go_ret
    exact ⟨ret_int HE.out, rfl⟩
  · have hlen' := hide hlen
    have HM : Hid (mayC c = (c.drop 0).all inB) := by unfold Hid; simp [mayC, hlen]; omega
    have hcells' := hide hcells
    clear hlen hcells
    go_enter Try.func53, Try.ntmps53
    go_wp2
    go_loop [10] (fun i => ∃ k : Nat, k ≤ n ∧ i = .int .i64 k ∧ Hid (mayC c = (c.drop k).all inB)) (fun i => n - (intOf i).toNat)
    case atStart => exact ⟨0, by omega, rfl, HM⟩
    case round =>
      clear HM
      obtain ⟨k, hk, rfl, hH⟩ := hrel
      by_cases hlt : k < n
      · rcases hcells'.out with h0 | ⟨b, off, rfl, hc⟩
        · omega
        · have hck := hc k hlt
          have hst : Hid (mayC c = (inB (c.getD k 0) && (c.drop (k + 1)).all inB)) := by
            have h2 := hH.out
            rw [all_drop (by rw [hlen'.out]; exact hlt)] at h2
            exact h2
          clear hH hc hcells'
          generalize c.getD k 0 = x at hck hst
          rcases hb : inB x with _ | _
          · have HE : Hid (1 = chk c) := by have h2 := hst.out; rw [hb] at h2; unfold Hid chk; simp [h2]
            have mb := mayNum_any x
            rw [hb] at mb
            clear hst
            go_wp2_with (go_at_call 65; refine (mb _).mono ?_; rintro e w' ⟨rfl, rfl⟩)
            go_ret
            exact ⟨ret_int HE.out, rfl⟩
          · have hst2 : Hid (mayC c = (c.drop (k + 1)).all inB) := by have h2 := hst.out; rw [hb] at h2; unfold Hid; simpa using h2
            have mb := mayNum_any x
            rw [hb] at mb
            clear hst
            go_wp2_with (go_at_call 65; refine (mb _).mono ?_; rintro e w' ⟨rfl, rfl⟩)
            go_round
            case rel => exact ⟨k + 1, by omega, by go_num, hst2⟩
            case measure => simp [intOf]; omega
      · have hkl : k = n := by omega
        subst hkl
        have HE : Hid (0 = chk c) := by
          have h2 := hH.out
          rw [List.drop_of_length_le (by rw [hlen'.out]; exact Nat.le_refl _)] at h2
          unfold Hid chk; simp [h2]
        clear hH
        go_wp2
        go_ret
        exact ⟨ret_int HE.out, rfl⟩

set_option maxHeartbeats 400000 in
theorem may_ref (a : Option Addr) (n cap : Nat) (c : List Int) (w : World) (hN : NS w a n c) :
    Calls Try.prog 34 #[.slice a n cap] w fun e w' => e = .returned (.bool (mayC c)) ∧ w' = w := by
  obtain ⟨hlen, hmax, hcells⟩ := hN
  unfold maxLen at hmax
  have hlen' := hide hlen
  have HM : Hid (mayC c = (decide (n ≤ 5) && (c.drop 0).all inB)) := by unfold Hid; simp [mayC, hlen]
  have hcells' := hide hcells
  clear hlen hcells
  go_enter Try.func34, Try.ntmps34
  go_wp2
  go_loop [3] (fun i => ∃ k : Nat, k ≤ n ∧ i = .int .i64 k ∧ Hid (mayC c = (decide (n ≤ 5) && (c.drop k).all inB))) (fun i => n - (intOf i).toNat)
  case atStart => exact ⟨0, by omega, rfl, HM⟩
  case round =>
    clear HM
    obtain ⟨k, hk, rfl, hH⟩ := hrel
    by_cases hlt : k < n
    · rcases hcells'.out with h0 | ⟨b, off, rfl, hc⟩
      · omega
      · have hck := hc k hlt
        have hst : Hid (mayC c = (decide (n ≤ 5) && (inB (c.getD k 0) && (c.drop (k + 1)).all inB))) := by
          have h2 := hH.out
          rw [all_drop (by rw [hlen'.out]; exact hlt)] at h2
          exact h2
        clear hH hc hcells'
        generalize c.getD k 0 = x at hck hst
        by_cases h1 : x < 0
        · have HE : Hid (false = mayC c) := by have h2 := hst.out; unfold Hid; rw [h2]; simp [inB]; omega
          clear hst
          go_wp2
          go_ret
          exact ⟨retB HE.out, rfl⟩
        · by_cases h2 : x > 1048576
          · have HE : Hid (false = mayC c) := by have h2 := hst.out; unfold Hid; rw [h2]; simp [inB]; omega
            clear hst
            go_wp2
            go_ret
            exact ⟨retB HE.out, rfl⟩
          · have hst2 : Hid (mayC c = (decide (n ≤ 5) && (c.drop (k + 1)).all inB)) := by
              have h3 := hst.out
              have h4 : inB x = true := inB_iff.2 ⟨by omega, by omega⟩
              rw [h4] at h3; unfold Hid; simpa using h3
            clear hst
            go_wp2
            go_round
            case rel => exact ⟨k + 1, by omega, by go_num, hst2⟩
            case measure => simp [intOf]; omega
    · have hkl : k = n := by omega
      subst hkl
      have HE : Hid (decide (k ≤ 5) = mayC c) := by
        have h2 := hH.out
        rw [List.drop_of_length_le (by rw [hlen'.out]; exact Nat.le_refl _)] at h2
        unfold Hid; rw [h2]; simp
      clear hH
      go_wp2
      go_ret
      exact ⟨retB (by rw [← HE.out]; simp; omega), rfl⟩

set_option maxHeartbeats 400000 in
/-- The document's 'Get'. -/
theorem get_ref (a : Option Addr) (n cap : Nat) (c : List Int) (r : Int) (w : World) (hN : NS w a n c) (k : Nat) (hr : r = k + 1) :
    Calls Try.prog 26 #[.slice a n cap, .int .i64 r] w fun e w' => e = .returned (.int .i64 (at5 c k)) ∧ w' = w := by
  have mb := may_ref a n cap c w hN
  obtain ⟨hlen, hmax, hcells⟩ := hN
  unfold maxLen at hmax
  subst hr
  by_cases hm : mayC c = true
  · have h5 : n ≤ 5 := by have := (mayC_iff.1 hm).1; omega
    rw [hm] at mb
    by_cases hk : k < n
    · have HE : Hid (c.getD k 0 = at5 c k) := by unfold Hid at5; rw [if_pos hm]
      rcases hcells with h0 | ⟨b, off, rfl, hc⟩
      · omega
      · have hck := hc k hk
        have hw : ((k : Int) + 1 - 1) = k := by omega
        have e1 : ¬ ((k : Int) + 1 < 1) := by omega
        have e2 : ¬ ((k : Int) + 1 > n) := by omega
        clear hc hlen hm
        generalize c.getD k 0 = x at hck HE
        go_enter Try.func26, Try.ntmps26
        go_wp2_with (go_at_call 34; refine mb.mono ?_; rintro e w' ⟨rfl, rfl⟩)
        go_ret
        exact ⟨ret_int HE.out, rfl⟩
    · have HE : Hid (0 = at5 c k) := by
        unfold Hid at5; rw [if_pos hm]; simp [List.getD_eq_getElem?_getD, List.getElem?_eq_none (show c.length ≤ k by omega)]
      have e1 : ¬ ((k : Int) + 1 < 1) := by omega
      have e2 : ((k : Int) + 1 > n) := by omega
      clear hcells hlen hm
      go_enter Try.func26, Try.ntmps26
      go_wp2_with (go_at_call 34; refine mb.mono ?_; rintro e w' ⟨rfl, rfl⟩)
      go_ret
      exact ⟨ret_int HE.out, rfl⟩
  · have HE : Hid (0 = at5 c k) := by unfold Hid at5; rw [if_neg hm]
    rw [show mayC c = false by simpa using hm] at mb
    clear hcells hlen hm
    go_enter Try.func26, Try.ntmps26
    go_wp2_with (go_at_call 34; refine mb.mono ?_; rintro e w' ⟨rfl, rfl⟩)
    go_ret
    exact ⟨ret_int HE.out, rfl⟩

theorem get_ref_as (a : Option Addr) (n cap : Nat) (c : List Int) (r x : Int) (w : World) (hN : NS w a n c) (k : Nat) (hr : r = k + 1) (hx : at5 c k = x) :
    Calls Try.prog 26 #[.slice a n cap, .int .i64 r] w fun e w' => e = .returned (.int .i64 x) ∧ w' = w := by
  subst hx; exact get_ref a n cap c r w hN k hr

theorem eq_drop {l m : List Int} {k : Nat} (h : k < l.length) (h2 : k < m.length) : (l.drop k = m.drop k) ↔ (l.getD k 0 = m.getD k 0 ∧ l.drop (k + 1) = m.drop (k + 1)) := by
  rw [List.drop_eq_getElem_cons h, List.drop_eq_getElem_cons h2, List.cons.injEq]
  simp [List.getD_eq_getElem?_getD, h, h2]

set_option maxHeartbeats 400000 in
/-- The document's 'Same'. -/
theorem same_any (a a' : Option Addr) (n cap n' cap' : Nat) (c d : List Int) (w : World) (hN : NS w a n c) (hN' : NS w a' n' d) :
    Calls Try.prog 35 #[.slice a n cap, .slice a' n' cap'] w fun e w' => e = .returned (.bool (decide (c = d))) ∧ Below w.heap.size w w' := by
  obtain ⟨hlen, hmax, hcells⟩ := hN
  obtain ⟨hlen', hmax', hcells'⟩ := hN'
  unfold maxLen at hmax hmax'
  by_cases hnn : n = n'
  · subst hnn
    have HL := hide hlen
    have HL' := hide hlen'
    have HC := hide hcells
    have HC' := hide hcells'
    clear hlen hlen' hcells hcells'
    go_enter Try.func35, Try.ntmps35
    go_wp2
    go_loopw [5] (fun i wr => ∃ k : Nat, k ≤ n ∧ i = .int .i64 k ∧ Below w.heap.size w wr ∧ Hid ((c = d) ↔ (c.drop k = d.drop k))) (fun i _ => n - (intOf i).toNat)
    case atStart => exact ⟨0, by omega, rfl, Below.refl _ _, by unfold Hid; simp⟩
    case round =>
      obtain ⟨k, hk, rfl, hbel, hH⟩ := hrel
      by_cases hlt : k < n
      · rcases HC.out with h0 | ⟨b, off, rfl, hc⟩
        · omega
        · rcases HC'.out with h0 | ⟨b', off', rfl, hc'⟩
          · omega
          · have hck := ((Ext.refl w).below hbel) _ _ (hc k hlt)
            have hck' := ((Ext.refl w).below hbel) _ _ (hc' k hlt)
            have hst : Hid ((c = d) ↔ (c.getD k 0 = d.getD k 0 ∧ c.drop (k + 1) = d.drop (k + 1))) := by
              have h2 := hH.out
              rw [eq_drop (by rw [HL.out]; exact hlt) (by rw [HL'.out]; exact hlt)] at h2
              exact h2
            clear hc hc' hH
            generalize c.getD k 0 = x at hck hst
            generalize d.getD k 0 = y at hck' hst
            by_cases hxy : x = y
            · have hst2 : Hid ((c = d) ↔ (c.drop (k + 1) = d.drop (k + 1))) := by have h2 := hst.out; unfold Hid; rw [h2]; simp [hxy]
              clear hst
              subst hxy
              go_wp2
              go_region
              all_goals go_wp2
              all_goals go_roundw
              all_goals first | exact ⟨k + 1, by omega, by go_num, by first | exact hbel | exact hbel.drew, hst2⟩ | (simp [intOf]; omega)
            · have HE : Hid (false = decide (c = d)) := by have h2 := hst.out; unfold Hid; simp [h2, hxy]
              have hxy2 : (x == y) = false := by simpa using hxy
              clear hst
              go_wp2
              go_region
              all_goals go_wp2
              all_goals go_ret
              all_goals exact ⟨retB HE.out, by first | exact hbel | exact hbel.drew⟩
      · have hkl : k = n := by omega
        subst hkl
        have HE : Hid (true = decide (c = d)) := by
          have h2 := hH.out
          rw [List.drop_of_length_le (by rw [HL.out]; exact Nat.le_refl _), List.drop_of_length_le (by rw [HL'.out]; exact Nat.le_refl _)] at h2
          unfold Hid; simp [h2]
        clear hH
        go_wp2
        go_ret
        exact ⟨retB HE.out, hbel⟩
  · have HE : Hid (false = decide (c = d)) := by
      unfold Hid; symm; rw [decide_eq_false_iff_not]; intro hh; subst hh; omega
    have hnn' : ¬ ((n : Int) = n') := by omega
    clear hlen hlen' hcells hcells'
    go_enter Try.func35, Try.ntmps35
    go_wp2
    go_ret
    exact ⟨retB HE.out, Below.refl _ _⟩
end Go.Proofs.Ytccpbkemiilgcaa
