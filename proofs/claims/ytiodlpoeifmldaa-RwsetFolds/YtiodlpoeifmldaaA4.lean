/- Where a key stands in a set (layer 8). -/
import Derived.Test.YtiodlpoeifmldaaA3
namespace Go.Proofs.Ytiodlpoeifmldaa
open Go.RowKit Go.Lib
set_option linter.unusedVariables false
set_option maxRecDepth 4000 in
set_option maxHeartbeats 400000 in
theorem compareS_any (a b : ByteArray) (w : World) : Calls Try.prog 85 #[.string a, .string b] w fun e w' => e = .returned (.int .i64 (cmpK a b)) ∧ w' = w := by
  have HC := hide (cmpK_is a b)
  go_enter Try.func85, Try.ntmps85
  go_wp2
  rw [run_callFunc_extern Try.func91 (by kernel_rfl) (by kernel_rfl) (by kernel_rfl) (e := Extern.BytealgCompare.compare) (by kernel_rfl), Lib.run_compareString, HC.out]
  simp only [Result.andThen]
  rw [Oper.upon_value]
  go_wp2
  go_ret
  exact ⟨rfl, rfl⟩
set_option maxRecDepth 4000 in
set_option maxHeartbeats 400000 in
theorem Compare_any (a b : ByteArray) (w : World) : Calls Try.prog 73 #[.string a, .string b] w fun e w' => e = .returned (.int .i64 (cmpK a b)) ∧ w' = w := by
  go_enter Try.func73, Try.ntmps73
  go_wp2_with (go_at_call 85; refine (compareS_any _ _ _).mono ?_; rintro e w' ⟨rfl, rfl⟩)
  go_ret
  exact ⟨rfl, rfl⟩
/-- A key's place is found by halving. -/
theorem halve_lo {s : List En} (hs : SrtK s) {t : ByteArray} {h : Nat} {x : En} (hx : s[h]? = some x) (hl : ltK x.1 t = true) : ∀ j y, j < h + 1 → s[j]? = some y → ltK y.1 t = true := by
  intro j y hj hy
  rcases Nat.lt_or_ge j h with k | k
  · exact ltK_trans (srt_lt hs hy hx k) hl
  · obtain rfl : j = h := by omega
    rw [hx] at hy
    cases hy
    exact hl
theorem halve_hi {s : List En} (hs : SrtK s) {t : ByteArray} {h : Nat} {x : En} (hx : s[h]? = some x) (hl : ltK x.1 t = false) : ∀ j y, h ≤ j → s[j]? = some y → ltK y.1 t = false := by
  intro j y hj hy
  rcases Nat.lt_or_ge h j with k | k
  · rcases hb : ltK y.1 t with _ | _
    · rfl
    · have := ltK_trans (srt_lt hs hx hy k) hb
      rw [hl] at this
      cases this
  · obtain rfl : j = h := by omega
    rw [hx] at hy
    cases hy
    exact hl
/-- Is a key at its place? -/
def thereB (s : List En) (t : ByteArray) (i : Nat) : Bool := match s[i]? with
  | none => false
  | some x => decide (x.1 = t)
end Go.Proofs.Ytiodlpoeifmldaa
