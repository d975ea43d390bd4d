/- What stage 2's own 'Light' does: where it answers true there are at most 60 texts, each of at most 4000 bytes. -/
import Derived.Test.YtgmimneendnfgaaWOpen
namespace Go.Proofs.Ytgmimneendnfgaa
open Go.RowKit
set_option linter.unusedVariables false

theorem all_of_getD {ps : List (List Int)} {c : Nat} (h : ∀ j, j < ps.length → (ps.getD j []).length ≤ c) : ∀ p ∈ ps, p.length ≤ c := by
  intro p hp
  obtain ⟨i, hi, rfl⟩ := List.getElem_of_mem hp
  have := h i hi
  have e : ps.getD i [] = ps[i] := by simp [List.getD_eq_getElem?_getD, hi]
  rw [e] at this; exact this

/-- What 'Light' tells. -/
def LightSays (e : Ending) (w w' : World) (n : Nat) (ps : List (List Int)) : Prop := ∃ r, e = .returned (.bool r) ∧ w' = w ∧ (r = true → n ≤ 60 ∧ ∀ p ∈ ps, p.length ≤ 4000)

set_option maxHeartbeats 4000000 in
set_option maxRecDepth 100000 in
theorem light_any (a : Option Addr) (n c : Nat) (ps : List (List Int)) (w : World) (hA : PC w a n ps) (hn : n ≤ 140737488351232) (hps : ∀ p ∈ ps, p.length ≤ 140737488351232) :
    Calls Try.prog 9 #[.slice a n c] w fun e w' => LightSays e w w' n ps := by
  have HA := hide hA
  have Hl := hide hA.1
  have Hps := hide hps
  have hnI : (n : Int) ≤ 140737488351232 := by omega
  clear hA hn hps
  go_enter Try.func9, Try.ntmps9
  go_wp2
  go_loop [3, 4] (fun s i => ∃ (k : Nat) (x : Int), k ≤ n ∧ i = .int .i64 (k : Int) ∧ s = .int .i64 x ∧ 0 ≤ x ∧ x ≤ 140737488355328 ∧ Hid (∀ j, j < k → ((ps.getD j []).length : Int) ≤ x)) (fun _ i => n - (intOf i).toNat)
  case atStart => exact ⟨0, 0, by omega, rfl, rfl, by omega, by omega, fun j hj => by omega⟩
  case round =>
    obtain ⟨k, x, hk, rfl, rfl, hx0, hx1, hH⟩ := hrel
    by_cases c1 : (k : Int) < (n : Int)
    · by_cases c2 : (k : Int) ≤ 60
      · by_cases c3 : x ≤ 4000
        · obtain ⟨b, off, y, len, cap, rfl, q, hbs, hcp⟩ := HA.out.at k (by omega)
          have hlen : (len : Int) ≤ 140737488351232 := by
            have h1 := hbs.1
            have h2 := Hps.out _ (getD_mem (ps := ps) (i := k) (by rw [Hl.out]; omega))
            omega
          have hH2 : Hid (∀ j, j < k + 1 → ((ps.getD j []).length : Int) ≤ x + len) := by
            intro j hj
            have h1 := hbs.1
            by_cases hjk : j = k
            · subst hjk; omega
            · have := hH.out j (by omega); omega
          clear hbs hcp
          go_wp2
          go_round
          case rel => exact ⟨k + 1, x + len, by omega, by go_num, rfl, by omega, by omega, hH2⟩
          case measure => simp [intOf]; omega
        · have d3 : decide (x ≤ 4000) = false := by simp; omega
          by_cases c4 : (n : Int) ≤ 60
          · go_wp2
            go_ret
            exact ⟨_, rfl, rfl, fun h => by simp at h⟩
          · have d4 : decide ((n : Int) ≤ 60) = false := by simp; omega
            go_wp2
            go_ret
            exact ⟨_, rfl, rfl, fun h => by simp at h⟩
      · have d2 : decide ((k : Int) ≤ 60) = false := by simp; omega
        have d4 : decide ((n : Int) ≤ 60) = false := by simp; omega
        go_wp2
        go_ret
        exact ⟨_, rfl, rfl, fun h => by simp at h⟩
    · have d1 : decide ((k : Int) < (n : Int)) = false := by simp; omega
      by_cases c4 : (n : Int) ≤ 60
      · by_cases c3 : x ≤ 4000
        · go_wp2
          go_ret
          refine ⟨_, rfl, rfl, fun _ => ⟨by omega, all_of_getD fun j hj => ?_⟩⟩
          rw [Hl.out] at hj
          have := hH.out j (by omega)
          omega
        · have d3 : decide (x ≤ 4000) = false := by simp; omega
          go_wp2
          go_ret
          exact ⟨_, rfl, rfl, fun h => by simp at h⟩
      · have d4 : decide ((n : Int) ≤ 60) = false := by simp; omega
        go_wp2
        go_ret
        exact ⟨_, rfl, rfl, fun h => by simp at h⟩
end Go.Proofs.Ytgmimneendnfgaa
