/- For the statement on any clock plain, set and ticked: what the contracts say at a replica that may be, and at one that may not. -/
import Derived.Test.YtbeknlpoialgiaaCLaw
namespace Go.Proofs.Ytbeknlpoialgiaa
open Go.RowKit
set_option linter.unusedVariables false

theorem getZ_in (c : List Int) (r : Nat) (hr : r < 5) : getZ c (r + 1) = at5 c r := by
  unfold getZ; rw [if_pos (by omega)]; congr 1
theorem setA_in (c : List Int) (r : Nat) (x : Int) (hr : r < 5) (hx : inB x = true) : setA c (r + 1) x = some (pln (setL c r x)) ∧ setE (r + 1) x = 0 := by
  unfold setA setE
  rw [if_pos ⟨by omega, hx⟩, if_pos ⟨by omega, hx⟩]
  exact ⟨rfl, rfl⟩
theorem setA_bad (c : List Int) (r x : Int) (h : ¬ ((1 ≤ r ∧ r ≤ 5) ∧ inB x = true)) : setA c r x = none ∧ setE r x = 1 := by
  unfold setA setE
  rw [if_neg h, if_neg h]
  exact ⟨rfl, rfl⟩
theorem tickA_in (c : List Int) (r : Nat) (hr : r < 5) (hx : ¬ at5 c r = 1048576) : tickA c (r + 1) = some (pln (setL c r (at5 c r + 1))) ∧ tickE c (r + 1) = 0 := by
  unfold tickA tickE
  rw [getZ_in c r hr, if_pos ⟨by omega, hx⟩, if_pos (by omega), if_neg hx]
  exact ⟨rfl, rfl⟩
theorem tickA_full (c : List Int) (r : Nat) (hr : r < 5) (hx : at5 c r = 1048576) : tickA c (r + 1) = none ∧ tickE c (r + 1) = 6 := by
  unfold tickA tickE
  rw [getZ_in c r hr, if_neg (fun t => t.2 hx), if_pos (by omega), if_pos hx]
  exact ⟨rfl, rfl⟩
theorem tickA_bad (c : List Int) (r : Int) (h : ¬ (1 ≤ r ∧ r ≤ 5)) : tickA c r = none ∧ tickE c r = 1 := by
  unfold tickA tickE
  rw [if_neg (fun t => h t.1), if_neg h]
  exact ⟨rfl, rfl⟩

theorem set_good (a : Option Addr) (n cap : Nat) (c : List Int) (r : Nat) (x : Int) (w : World) (hN : NS w a n c) (hr : r < 5) (hx : inB x = true) :
    Calls Try.prog 10 #[.slice a n cap, .int .i64 (r + 1), .int .i64 x] w fun e w' => ∃ v, e = .returned (.tuple #[v, .int .i64 0]) ∧ OwnN w.heap.size w' v (pln (setL c r x)) ∧ Below w.heap.size w w' := by
  have h := Set_any a n cap c (r + 1) x w hN
  rw [(setA_in c r x hr hx).1, (setA_in c r x hr hx).2] at h
  refine h.mono ?_
  rintro e w' ⟨hb, v, rfl, hO⟩
  exact ⟨v, rfl, hO, hb⟩
theorem own_nil_len {N : Nat} {w : World} {v : Value} (h : OwnN N w v []) : ∃ p c, v = .slice p 0 c := by
  obtain ⟨p, c, hv, _, _⟩ := h.open
  exact ⟨p, c, hv⟩
theorem set_bad (a : Option Addr) (n cap : Nat) (c : List Int) (r x : Int) (w : World) (hN : NS w a n c) (h0 : ¬ ((1 ≤ r ∧ r ≤ 5) ∧ inB x = true)) :
    Calls Try.prog 10 #[.slice a n cap, .int .i64 r, .int .i64 x] w fun e w' => ∃ p cp, e = .returned (.tuple #[.slice p 0 cp, .int .i64 1]) ∧ Below w.heap.size w w' := by
  have h := Set_any a n cap c r x w hN
  rw [(setA_bad c r x h0).1, (setA_bad c r x h0).2] at h
  refine h.mono ?_
  rintro e w' ⟨hb, v, rfl, hO⟩
  obtain ⟨p, cp, rfl⟩ := own_nil_len hO
  exact ⟨p, cp, rfl, hb⟩
theorem tick_good (a : Option Addr) (n cap : Nat) (c : List Int) (r : Nat) (w : World) (hN : NS w a n c) (hr : r < 5) (hx : ¬ at5 c r = 1048576) :
    Calls Try.prog 11 #[.slice a n cap, .int .i64 (r + 1)] w fun e w' => ∃ v, e = .returned (.tuple #[v, .int .i64 0]) ∧ OwnN w.heap.size w' v (pln (setL c r (at5 c r + 1))) ∧ Below w.heap.size w w' := by
  have h := Tick_any a n cap c (r + 1) w hN
  rw [(tickA_in c r hr hx).1, (tickA_in c r hr hx).2] at h
  refine h.mono ?_
  rintro e w' ⟨hb, v, rfl, hO⟩
  exact ⟨v, rfl, hO, hb⟩
theorem tick_full (a : Option Addr) (n cap : Nat) (c : List Int) (r : Nat) (w : World) (hN : NS w a n c) (hr : r < 5) (hx : at5 c r = 1048576) :
    Calls Try.prog 11 #[.slice a n cap, .int .i64 (r + 1)] w fun e w' => ∃ p cp, e = .returned (.tuple #[.slice p 0 cp, .int .i64 6]) ∧ Below w.heap.size w w' := by
  have h := Tick_any a n cap c (r + 1) w hN
  rw [(tickA_full c r hr hx).1, (tickA_full c r hr hx).2] at h
  refine h.mono ?_
  rintro e w' ⟨hb, v, rfl, hO⟩
  obtain ⟨p, cp, rfl⟩ := own_nil_len hO
  exact ⟨p, cp, rfl, hb⟩
theorem tick_bad (a : Option Addr) (n cap : Nat) (c : List Int) (r : Int) (w : World) (hN : NS w a n c) (h0 : ¬ (1 ≤ r ∧ r ≤ 5)) :
    Calls Try.prog 11 #[.slice a n cap, .int .i64 r] w fun e w' => ∃ p cp, e = .returned (.tuple #[.slice p 0 cp, .int .i64 1]) ∧ Below w.heap.size w w' := by
  have h := Tick_any a n cap c r w hN
  rw [(tickA_bad c r h0).1, (tickA_bad c r h0).2] at h
  refine h.mono ?_
  rintro e w' ⟨hb, v, rfl, hO⟩
  obtain ⟨p, cp, rfl⟩ := own_nil_len hO
  exact ⟨p, cp, rfl, hb⟩

theorem getZ_out (c : List Int) (k : Nat) (hk : 5 ≤ k) : at5 c k = 0 := by
  unfold at5
  split
  · next h =>
    have := (mayC_iff.1 h).1
    simp [List.getD_eq_getElem?_getD, List.getElem?_eq_none (show c.length ≤ k by omega)]
  · rfl
set_option maxHeartbeats 400000 in
/-- The document's 'Get', of any replica. -/
theorem get_refZ (a : Option Addr) (n cap : Nat) (c : List Int) (r : Int) (w : World) (hN : NS w a n c) :
    Calls Try.prog 18 #[.slice a n cap, .int .i64 r] w fun e w' => e = .returned (.int .i64 (getZ c r)) ∧ w' = w := by
  by_cases h1 : r < 1
  · have hz : getZ c r = 0 := by unfold getZ; rw [if_neg (by omega)]
    rw [hz]
    have mb := may_ref a n cap c w hN
    clear hN hz
    rcases hm : mayC c with _ | _
    · rw [hm] at mb
      go_enter Try.func18, Try.ntmps18
      go_wp2_with (go_at_call 13; refine mb.mono ?_; rintro e w' ⟨rfl, rfl⟩)
      go_ret
      exact ⟨rfl, rfl⟩
    · rw [hm] at mb
      go_enter Try.func18, Try.ntmps18
      go_wp2_with (go_at_call 13; refine mb.mono ?_; rintro e w' ⟨rfl, rfl⟩)
      go_ret
      exact ⟨rfl, rfl⟩
  · refine get_ref_as a n cap c r _ w hN (r.toNat - 1) (by omega) ?_
    unfold getZ
    split
    · rfl
    · exact getZ_out c _ (by omega)
end Go.Proofs.Ytbeknlpoialgiaa
