/- The document's 'May': is there such a record? -/
import Derived.Test.YtgmimneendnfgaaWGetRec
import Derived.Test.YtgmimneendnfgaaWCutM
namespace Go.Proofs.Ytgmimneendnfgaa
open Go.RowKit
set_option linter.unusedVariables false

set_option maxHeartbeats 1000000 in
theorem may_any (k : Int) (a : Option Addr) (n c : Nat) (w : World) (r : Bool) (hr : decide (1 ≤ k ∧ k ≤ 200 ∧ n ≤ 65536) = r) :
    Calls Try.prog 26 #[.int .i64 k, .slice a n c] w fun e w' => e = .returned (.bool r) ∧ w' = w := by
  by_cases h1 : 1 ≤ k
  · by_cases h2 : k ≤ 200
    · by_cases h3 : (n : Int) ≤ 65536
      · have : r = true := by rw [← hr]; exact decide_eq_true ⟨h1, h2, by omega⟩
        subst this
        clear hr
        go_enter Try.func26, Try.ntmps26
        go_wp2
        go_ret
        exact ⟨rfl, rfl⟩
      · have : r = false := by rw [← hr]; exact decide_eq_false (by omega)
        subst this
        have d3 : decide ((n : Int) ≤ 65536) = false := by simp; omega
        clear hr h3
        go_enter Try.func26, Try.ntmps26
        go_wp2
        go_ret
        exact ⟨rfl, rfl⟩
    · have : r = false := by rw [← hr]; exact decide_eq_false (by omega)
      subst this
      have d3 : decide (k ≤ 200) = false := by simp; omega
      clear hr
      go_enter Try.func26, Try.ntmps26
      go_wp2
      go_ret
      exact ⟨rfl, rfl⟩
  · have : r = false := by rw [← hr]; exact decide_eq_false (by omega)
    subst this
    have d3 : decide (1 ≤ k) = false := by simp; omega
    clear hr
    go_enter Try.func26, Try.ntmps26
    go_wp2
    go_ret
    exact ⟨rfl, rfl⟩
end Go.Proofs.Ytgmimneendnfgaa
