/- What 'Get', 'Set' and 'Tick' do. -/
import Derived.Test.YtccpbkemiilgcaaCFun
namespace Go.Proofs.Ytccpbkemiilgcaa
open Go.RowKit
set_option linter.unusedVariables false

/-- A replica's number, replicas counted from 1, as any integer. -/
def getZ (c : List Int) (r : Int) : Int := if 1 ≤ r ∧ r ≤ 5 then at5 c (r.toNat - 1) else 0

set_option maxHeartbeats 1000000 in
theorem Get_any (a : Option Addr) (n cap : Nat) (c : List Int) (r : Int) (w : World) (hN : NS w a n c) :
    Calls Try.prog 54 #[.slice a n cap, .int .i64 r] w fun e w' => e = .returned (.int .i64 (getZ c r)) ∧ Below w.heap.size w w' := by
  have HN := hide hN
  clear hN
  by_cases hr : 1 ≤ r ∧ r ≤ 5
  · have hm := mayRep_any r w
    rw [decide_eq_true hr] at hm
    have h5 : r = 1 ∨ r = 2 ∨ r = 3 ∨ r = 4 ∨ r = 5 := by omega
    clear hr
    rcases h5 with rfl | rfl | rfl | rfl | rfl
    · have HE : Hid (at5 c 0 = getZ c 1) := rfl
      have i0 : ∀ w : World, (Instr.index 75 (.agg #[.int .i64 (at5 c 0), .int .i64 (at5 c 1), .int .i64 (at5 c 2), .int .i64 (at5 c 3), .int .i64 (at5 c 4)]) (.int .i64 0)).run Try.prog w = .ok (.int .i64 (at5 c 0)) w := fun _ => by kernel_rfl
      go_enter Try.func54, Try.ntmps54
      go_wp2_with (first
        | (go_at_call 66; refine hm.mono ?_; rintro e w' ⟨rfl, rfl⟩)
        | (go_at_call 61; refine (numbers_any _ _ _ c _ HN.out).mono ?_; rintro e w1 ⟨rfl, hb1⟩; have HB1 := hide hb1; clear hb1))
      go_ret
      exact ⟨ret_int HE.out, HB1.out⟩
    · have HE : Hid (at5 c 1 = getZ c 2) := rfl
      have i0 : ∀ w : World, (Instr.index 75 (.agg #[.int .i64 (at5 c 0), .int .i64 (at5 c 1), .int .i64 (at5 c 2), .int .i64 (at5 c 3), .int .i64 (at5 c 4)]) (.int .i64 1)).run Try.prog w = .ok (.int .i64 (at5 c 1)) w := fun _ => by kernel_rfl
      go_enter Try.func54, Try.ntmps54
      go_wp2_with (first
        | (go_at_call 66; refine hm.mono ?_; rintro e w' ⟨rfl, rfl⟩)
        | (go_at_call 61; refine (numbers_any _ _ _ c _ HN.out).mono ?_; rintro e w1 ⟨rfl, hb1⟩; have HB1 := hide hb1; clear hb1))
      go_ret
      exact ⟨ret_int HE.out, HB1.out⟩
    · have HE : Hid (at5 c 2 = getZ c 3) := rfl
      have i0 : ∀ w : World, (Instr.index 75 (.agg #[.int .i64 (at5 c 0), .int .i64 (at5 c 1), .int .i64 (at5 c 2), .int .i64 (at5 c 3), .int .i64 (at5 c 4)]) (.int .i64 2)).run Try.prog w = .ok (.int .i64 (at5 c 2)) w := fun _ => by kernel_rfl
      go_enter Try.func54, Try.ntmps54
      go_wp2_with (first
        | (go_at_call 66; refine hm.mono ?_; rintro e w' ⟨rfl, rfl⟩)
        | (go_at_call 61; refine (numbers_any _ _ _ c _ HN.out).mono ?_; rintro e w1 ⟨rfl, hb1⟩; have HB1 := hide hb1; clear hb1))
      go_ret
      exact ⟨ret_int HE.out, HB1.out⟩
    · have HE : Hid (at5 c 3 = getZ c 4) := rfl
      have i0 : ∀ w : World, (Instr.index 75 (.agg #[.int .i64 (at5 c 0), .int .i64 (at5 c 1), .int .i64 (at5 c 2), .int .i64 (at5 c 3), .int .i64 (at5 c 4)]) (.int .i64 3)).run Try.prog w = .ok (.int .i64 (at5 c 3)) w := fun _ => by kernel_rfl
      go_enter Try.func54, Try.ntmps54
      go_wp2_with (first
        | (go_at_call 66; refine hm.mono ?_; rintro e w' ⟨rfl, rfl⟩)
        | (go_at_call 61; refine (numbers_any _ _ _ c _ HN.out).mono ?_; rintro e w1 ⟨rfl, hb1⟩; have HB1 := hide hb1; clear hb1))
      go_ret
      exact ⟨ret_int HE.out, HB1.out⟩
    · have HE : Hid (at5 c 4 = getZ c 5) := rfl
      have i0 : ∀ w : World, (Instr.index 75 (.agg #[.int .i64 (at5 c 0), .int .i64 (at5 c 1), .int .i64 (at5 c 2), .int .i64 (at5 c 3), .int .i64 (at5 c 4)]) (.int .i64 4)).run Try.prog w = .ok (.int .i64 (at5 c 4)) w := fun _ => by kernel_rfl
      go_enter Try.func54, Try.ntmps54
      go_wp2_with (first
        | (go_at_call 66; refine hm.mono ?_; rintro e w' ⟨rfl, rfl⟩)
        | (go_at_call 61; refine (numbers_any _ _ _ c _ HN.out).mono ?_; rintro e w1 ⟨rfl, hb1⟩; have HB1 := hide hb1; clear hb1))
      go_ret
      exact ⟨ret_int HE.out, HB1.out⟩
  · have hm := mayRep_any r w
    rw [decide_eq_false hr] at hm
    have HE : Hid (0 = getZ c r) := by unfold Hid getZ; rw [if_neg hr]
    clear hr
    go_enter Try.func54, Try.ntmps54
    go_wp2_with (go_at_call 66; refine hm.mono ?_; rintro e w' ⟨rfl, rfl⟩)
    go_ret
    exact ⟨ret_int HE.out, Below.refl _ _⟩

/-- What 'Set' and 'Tick' tell. -/
def SetSays (w : World) (q : Option (List Int)) (err : Int) (e : Ending) (w' : World) : Prop :=
  Below w.heap.size w w' ∧ ∃ v, e = .returned (.tuple #[v, .int .i64 err]) ∧ OwnN w.heap.size w' v (q.getD [])
theorem SetSays.bad (w w' : World) (q : Option (List Int)) (err : Int) (hq : q = none) (hb : Below w.heap.size w w') : SetSays w q err (.returned (.tuple #[.slice none 0 0, .int .i64 err])) w' := by
  subst hq; exact ⟨hb, _, rfl, OwnN.nil _ _⟩

/-- Set, as lists: none: ErrArg. -/
def setA (c : List Int) (r n : Int) : Option (List Int) := if (1 ≤ r ∧ r ≤ 5) ∧ inB n = true then some (pln (setL c (r.toNat - 1) n)) else none
def setE (r n : Int) : Int := if (1 ≤ r ∧ r ≤ 5) ∧ inB n = true then 0 else 1

/-- Tick, as lists: none: an error. -/
def tickA (c : List Int) (r : Int) : Option (List Int) := if (1 ≤ r ∧ r ≤ 5) ∧ getZ c r ≠ 1048576 then some (pln (setL c (r.toNat - 1) (getZ c r + 1))) else none
def tickE (c : List Int) (r : Int) : Int := if 1 ≤ r ∧ r ≤ 5 then (if getZ c r = 1048576 then 6 else 0) else 1
theorem getZ_bd (c : List Int) (r : Int) : 0 ≤ getZ c r ∧ getZ c r ≤ 1048576 := by
  unfold getZ; split
  · exact at5_bd _ _
  · omega

end Go.Proofs.Ytccpbkemiilgcaa
