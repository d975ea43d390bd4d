/- What 'Get', 'Set' and 'Tick' do. -/
import Derived.Test.YtbeknlpoialgiaaCFun
namespace Go.Proofs.Ytbeknlpoialgiaa
open Go.RowKit
set_option linter.unusedVariables false

/-- A replica's number, replicas counted from 1, as any integer. -/
def getZ (c : List Int) (r : Int) : Int := if 1 ≤ r ∧ r ≤ 5 then at5 c (r.toNat - 1) else 0

set_option maxHeartbeats 1000000 in
theorem Get_any (a : Option Addr) (n cap : Nat) (c : List Int) (r : Int) (w : World) (hN : NS w a n c) :
    Calls Try.prog 17 #[.slice a n cap, .int .i64 r] w fun e w' => e = .returned (.int .i64 (getZ c r)) ∧ Below w.heap.size w w' := by
  have HN := hide hN
  clear hN
  by_cases hr : 1 ≤ r ∧ r ≤ 5
  · have hm := mayRep_any r w
    rw [decide_eq_true hr] at hm
    have h5 : r = 1 ∨ r = 2 ∨ r = 3 ∨ r = 4 ∨ r = 5 := by omega
    clear hr
    rcases h5 with rfl | rfl | rfl | rfl | rfl
    · have HE : Hid (at5 c 0 = getZ c 1) := rfl
      have i0 : ∀ w : World, (Instr.index 51 (.agg #[.int .i64 (at5 c 0), .int .i64 (at5 c 1), .int .i64 (at5 c 2), .int .i64 (at5 c 3), .int .i64 (at5 c 4)]) (.int .i64 0)).run Try.prog w = .ok (.int .i64 (at5 c 0)) w := fun _ => by kernel_rfl
      go_enter Try.func17, Try.ntmps17
      go_wp2_with (first
        | (go_at_call 35; refine hm.mono ?_; rintro e w' ⟨rfl, rfl⟩)
        | (go_at_call 37; refine (numbers_any _ _ _ c _ HN.out).mono ?_; rintro e w1 ⟨rfl, hb1⟩; have HB1 := hide hb1; clear hb1))
      go_ret
      exact ⟨ret_int HE.out, HB1.out⟩
    · have HE : Hid (at5 c 1 = getZ c 2) := rfl
      have i0 : ∀ w : World, (Instr.index 51 (.agg #[.int .i64 (at5 c 0), .int .i64 (at5 c 1), .int .i64 (at5 c 2), .int .i64 (at5 c 3), .int .i64 (at5 c 4)]) (.int .i64 1)).run Try.prog w = .ok (.int .i64 (at5 c 1)) w := fun _ => by kernel_rfl
      go_enter Try.func17, Try.ntmps17
      go_wp2_with (first
        | (go_at_call 35; refine hm.mono ?_; rintro e w' ⟨rfl, rfl⟩)
        | (go_at_call 37; refine (numbers_any _ _ _ c _ HN.out).mono ?_; rintro e w1 ⟨rfl, hb1⟩; have HB1 := hide hb1; clear hb1))
      go_ret
      exact ⟨ret_int HE.out, HB1.out⟩
    · have HE : Hid (at5 c 2 = getZ c 3) := rfl
      have i0 : ∀ w : World, (Instr.index 51 (.agg #[.int .i64 (at5 c 0), .int .i64 (at5 c 1), .int .i64 (at5 c 2), .int .i64 (at5 c 3), .int .i64 (at5 c 4)]) (.int .i64 2)).run Try.prog w = .ok (.int .i64 (at5 c 2)) w := fun _ => by kernel_rfl
      go_enter Try.func17, Try.ntmps17
      go_wp2_with (first
        | (go_at_call 35; refine hm.mono ?_; rintro e w' ⟨rfl, rfl⟩)
        | (go_at_call 37; refine (numbers_any _ _ _ c _ HN.out).mono ?_; rintro e w1 ⟨rfl, hb1⟩; have HB1 := hide hb1; clear hb1))
      go_ret
      exact ⟨ret_int HE.out, HB1.out⟩
    · have HE : Hid (at5 c 3 = getZ c 4) := rfl
      have i0 : ∀ w : World, (Instr.index 51 (.agg #[.int .i64 (at5 c 0), .int .i64 (at5 c 1), .int .i64 (at5 c 2), .int .i64 (at5 c 3), .int .i64 (at5 c 4)]) (.int .i64 3)).run Try.prog w = .ok (.int .i64 (at5 c 3)) w := fun _ => by kernel_rfl
      go_enter Try.func17, Try.ntmps17
      go_wp2_with (first
        | (go_at_call 35; refine hm.mono ?_; rintro e w' ⟨rfl, rfl⟩)
        | (go_at_call 37; refine (numbers_any _ _ _ c _ HN.out).mono ?_; rintro e w1 ⟨rfl, hb1⟩; have HB1 := hide hb1; clear hb1))
      go_ret
      exact ⟨ret_int HE.out, HB1.out⟩
    · have HE : Hid (at5 c 4 = getZ c 5) := rfl
      have i0 : ∀ w : World, (Instr.index 51 (.agg #[.int .i64 (at5 c 0), .int .i64 (at5 c 1), .int .i64 (at5 c 2), .int .i64 (at5 c 3), .int .i64 (at5 c 4)]) (.int .i64 4)).run Try.prog w = .ok (.int .i64 (at5 c 4)) w := fun _ => by kernel_rfl
      go_enter Try.func17, Try.ntmps17
      go_wp2_with (first
        | (go_at_call 35; refine hm.mono ?_; rintro e w' ⟨rfl, rfl⟩)
        | (go_at_call 37; refine (numbers_any _ _ _ c _ HN.out).mono ?_; rintro e w1 ⟨rfl, hb1⟩; have HB1 := hide hb1; clear hb1))
      go_ret
      exact ⟨ret_int HE.out, HB1.out⟩
  · have hm := mayRep_any r w
    rw [decide_eq_false hr] at hm
    have HE : Hid (0 = getZ c r) := by unfold Hid getZ; rw [if_neg hr]
    clear hr
    go_enter Try.func17, Try.ntmps17
    go_wp2_with (go_at_call 35; refine hm.mono ?_; rintro e w' ⟨rfl, rfl⟩)
    go_ret
    exact ⟨ret_int HE.out, Below.refl _ _⟩

/-- What 'Set' and 'Tick' tell. -/
def SetSays (w : World) (q : Option (List Int)) (err : Int) (e : Ending) (w' : World) : Prop :=
  Below w.heap.size w w' ∧ ∃ v, e = .returned (.tuple #[v, .int .i64 err]) ∧ OwnN w.heap.size w' v (q.getD [])
theorem SetSays.bad (w w' : World) (q : Option (List Int)) (err : Int) (hq : q = none) (hb : Below w.heap.size w w') : SetSays w q err (.returned (.tuple #[.slice none 0 0, .int .i64 err])) w' := by
  subst hq; exact ⟨hb, _, rfl, OwnN.nil _ _⟩

/-- Set, as lists: none: ErrArg. -/
def setA (c : List Int) (r n : Int) : Option (List Int) := if (1 ≤ r ∧ r ≤ 5) ∧ inB n = true then some (pln (setL c (r.toNat - 1) n)) else none
def setE (r n : Int) : Int := if (1 ≤ r ∧ r ≤ 5) ∧ inB n = true then 0 else 1

set_option maxHeartbeats 2000000 in
theorem Set_any (a : Option Addr) (n cap : Nat) (c : List Int) (r x : Int) (w : World) (hN : NS w a n c) :
    Calls Try.prog 10 #[.slice a n cap, .int .i64 r, .int .i64 x] w (SetSays w (setA c r x) (setE r x)) := by
  have HN := hide hN
  clear hN
  by_cases hr : 1 ≤ r ∧ r ≤ 5
  · have hm := mayRep_any r w
    rw [decide_eq_true hr] at hm
    have hk := mayNum_any x w
    rcases hx : inB x with _ | _
    · rw [hx] at hk
      have HA : Hid (setA c r x = none ∧ setE r x = 1) := by unfold Hid setA setE; simp [hx]
      clear hr hx
      go_enter Try.func10, Try.ntmps10
      go_wp2_with (first
        | (go_at_call 35; refine hm.mono ?_; rintro e w' ⟨rfl, rfl⟩)
        | (go_at_call 36; refine hk.mono ?_; rintro e w' ⟨rfl, rfl⟩))
      go_ret2
      rw [HA.out.2]
      exact SetSays.bad _ _ _ _ HA.out.1 (Below.refl _ _)
    · rw [hx] at hk
      have h5 : r = 1 ∨ r = 2 ∨ r = 3 ∨ r = 4 ∨ r = 5 := by omega
      rcases h5 with rfl | rfl | rfl | rfl | rfl
      · have HA : Hid (setA c 1 x = some (pln [x, (at5 c 1), (at5 c 2), (at5 c 3), (at5 c 4)]) ∧ setE 1 x = 0) := by
          refine ⟨?_, ?_⟩
          · unfold setA; rw [if_pos ⟨by omega, hx⟩]; rfl
          · unfold setE; rw [if_pos ⟨by omega, hx⟩]
        clear hr hx
        go_enter Try.func10, Try.ntmps10
        go_wp2_with (first
          | (go_at_call 35; refine hm.mono ?_; rintro e w' ⟨rfl, rfl⟩)
          | (go_at_call 36; refine hk.mono ?_; rintro e w' ⟨rfl, rfl⟩)
          | (go_at_call 37; refine (numbers_any _ _ _ c _ HN.out).mono ?_; rintro e w1 ⟨rfl, hb1⟩; have HB1 := hide hb1; clear hb1)
          | (go_at_call 38; refine (plain_any _ _ _ _ _ _).mono ?_; rintro e w2 ⟨v, rfl, hown, hb2⟩; have HO := hide hown; have HB2 := hide hb2; clear hown hb2))
        go_ret2
        rw [HA.out.1, HA.out.2]
        have HB1' := HB1.out.alloc HB1.out.size (.cells #[.int .i64 x, .int .i64 (at5 c 1), .int .i64 (at5 c 2), .int .i64 (at5 c 3), .int .i64 (at5 c 4)] 51)
        exact ⟨bel_next HB1' HB2.out, _, rfl, HO.out.mono HB1'.size⟩
      · have HA : Hid (setA c 2 x = some (pln [(at5 c 0), x, (at5 c 2), (at5 c 3), (at5 c 4)]) ∧ setE 2 x = 0) := by
          refine ⟨?_, ?_⟩
          · unfold setA; rw [if_pos ⟨by omega, hx⟩]; rfl
          · unfold setE; rw [if_pos ⟨by omega, hx⟩]
        clear hr hx
        go_enter Try.func10, Try.ntmps10
        go_wp2_with (first
          | (go_at_call 35; refine hm.mono ?_; rintro e w' ⟨rfl, rfl⟩)
          | (go_at_call 36; refine hk.mono ?_; rintro e w' ⟨rfl, rfl⟩)
          | (go_at_call 37; refine (numbers_any _ _ _ c _ HN.out).mono ?_; rintro e w1 ⟨rfl, hb1⟩; have HB1 := hide hb1; clear hb1)
          | (go_at_call 38; refine (plain_any _ _ _ _ _ _).mono ?_; rintro e w2 ⟨v, rfl, hown, hb2⟩; have HO := hide hown; have HB2 := hide hb2; clear hown hb2))
        go_ret2
        rw [HA.out.1, HA.out.2]
        have HB1' := HB1.out.alloc HB1.out.size (.cells #[.int .i64 (at5 c 0), .int .i64 x, .int .i64 (at5 c 2), .int .i64 (at5 c 3), .int .i64 (at5 c 4)] 51)
        exact ⟨bel_next HB1' HB2.out, _, rfl, HO.out.mono HB1'.size⟩
      · have HA : Hid (setA c 3 x = some (pln [(at5 c 0), (at5 c 1), x, (at5 c 3), (at5 c 4)]) ∧ setE 3 x = 0) := by
          refine ⟨?_, ?_⟩
          · unfold setA; rw [if_pos ⟨by omega, hx⟩]; rfl
          · unfold setE; rw [if_pos ⟨by omega, hx⟩]
        clear hr hx
        go_enter Try.func10, Try.ntmps10
        go_wp2_with (first
          | (go_at_call 35; refine hm.mono ?_; rintro e w' ⟨rfl, rfl⟩)
          | (go_at_call 36; refine hk.mono ?_; rintro e w' ⟨rfl, rfl⟩)
          | (go_at_call 37; refine (numbers_any _ _ _ c _ HN.out).mono ?_; rintro e w1 ⟨rfl, hb1⟩; have HB1 := hide hb1; clear hb1)
          | (go_at_call 38; refine (plain_any _ _ _ _ _ _).mono ?_; rintro e w2 ⟨v, rfl, hown, hb2⟩; have HO := hide hown; have HB2 := hide hb2; clear hown hb2))
        go_ret2
        rw [HA.out.1, HA.out.2]
        have HB1' := HB1.out.alloc HB1.out.size (.cells #[.int .i64 (at5 c 0), .int .i64 (at5 c 1), .int .i64 x, .int .i64 (at5 c 3), .int .i64 (at5 c 4)] 51)
        exact ⟨bel_next HB1' HB2.out, _, rfl, HO.out.mono HB1'.size⟩
      · have HA : Hid (setA c 4 x = some (pln [(at5 c 0), (at5 c 1), (at5 c 2), x, (at5 c 4)]) ∧ setE 4 x = 0) := by
          refine ⟨?_, ?_⟩
          · unfold setA; rw [if_pos ⟨by omega, hx⟩]; rfl
          · unfold setE; rw [if_pos ⟨by omega, hx⟩]
        clear hr hx
        go_enter Try.func10, Try.ntmps10
        go_wp2_with (first
          | (go_at_call 35; refine hm.mono ?_; rintro e w' ⟨rfl, rfl⟩)
          | (go_at_call 36; refine hk.mono ?_; rintro e w' ⟨rfl, rfl⟩)
          | (go_at_call 37; refine (numbers_any _ _ _ c _ HN.out).mono ?_; rintro e w1 ⟨rfl, hb1⟩; have HB1 := hide hb1; clear hb1)
          | (go_at_call 38; refine (plain_any _ _ _ _ _ _).mono ?_; rintro e w2 ⟨v, rfl, hown, hb2⟩; have HO := hide hown; have HB2 := hide hb2; clear hown hb2))
        go_ret2
        rw [HA.out.1, HA.out.2]
        have HB1' := HB1.out.alloc HB1.out.size (.cells #[.int .i64 (at5 c 0), .int .i64 (at5 c 1), .int .i64 (at5 c 2), .int .i64 x, .int .i64 (at5 c 4)] 51)
        exact ⟨bel_next HB1' HB2.out, _, rfl, HO.out.mono HB1'.size⟩
      · have HA : Hid (setA c 5 x = some (pln [(at5 c 0), (at5 c 1), (at5 c 2), (at5 c 3), x]) ∧ setE 5 x = 0) := by
          refine ⟨?_, ?_⟩
          · unfold setA; rw [if_pos ⟨by omega, hx⟩]; rfl
          · unfold setE; rw [if_pos ⟨by omega, hx⟩]
        clear hr hx
        go_enter Try.func10, Try.ntmps10
        go_wp2_with (first
          | (go_at_call 35; refine hm.mono ?_; rintro e w' ⟨rfl, rfl⟩)
          | (go_at_call 36; refine hk.mono ?_; rintro e w' ⟨rfl, rfl⟩)
          | (go_at_call 37; refine (numbers_any _ _ _ c _ HN.out).mono ?_; rintro e w1 ⟨rfl, hb1⟩; have HB1 := hide hb1; clear hb1)
          | (go_at_call 38; refine (plain_any _ _ _ _ _ _).mono ?_; rintro e w2 ⟨v, rfl, hown, hb2⟩; have HO := hide hown; have HB2 := hide hb2; clear hown hb2))
        go_ret2
        rw [HA.out.1, HA.out.2]
        have HB1' := HB1.out.alloc HB1.out.size (.cells #[.int .i64 (at5 c 0), .int .i64 (at5 c 1), .int .i64 (at5 c 2), .int .i64 (at5 c 3), .int .i64 x] 51)
        exact ⟨bel_next HB1' HB2.out, _, rfl, HO.out.mono HB1'.size⟩
  · have hm := mayRep_any r w
    rw [decide_eq_false hr] at hm
    have HA : Hid (setA c r x = none ∧ setE r x = 1) := by unfold Hid setA setE; simp [hr]
    clear hr
    go_enter Try.func10, Try.ntmps10
    go_wp2_with (go_at_call 35; refine hm.mono ?_; rintro e w' ⟨rfl, rfl⟩)
    go_ret2
    rw [HA.out.2]
    exact SetSays.bad _ _ _ _ HA.out.1 (Below.refl _ _)

/-- Tick, as lists: none: an error. -/
def tickA (c : List Int) (r : Int) : Option (List Int) := if (1 ≤ r ∧ r ≤ 5) ∧ getZ c r ≠ 1048576 then some (pln (setL c (r.toNat - 1) (getZ c r + 1))) else none
def tickE (c : List Int) (r : Int) : Int := if 1 ≤ r ∧ r ≤ 5 then (if getZ c r = 1048576 then 6 else 0) else 1
theorem getZ_bd (c : List Int) (r : Int) : 0 ≤ getZ c r ∧ getZ c r ≤ 1048576 := by
  unfold getZ; split
  · exact at5_bd _ _
  · omega

set_option maxHeartbeats 2000000 in
theorem Tick_any (a : Option Addr) (n cap : Nat) (c : List Int) (r : Int) (w : World) (hN : NS w a n c) :
    Calls Try.prog 11 #[.slice a n cap, .int .i64 r] w (SetSays w (tickA c r) (tickE c r)) := by
  have HN := hide hN
  clear hN
  by_cases hr : 1 ≤ r ∧ r ≤ 5
  · have hm := mayRep_any r w
    rw [decide_eq_true hr] at hm
    have hg := Get_any a n cap c r w HN.out
    have hbd := getZ_bd c r
    by_cases hz : getZ c r = 1048576
    · have HA : Hid (tickA c r = none ∧ tickE c r = 6) := by unfold Hid tickA tickE; simp [hz, hr]
      rw [hz] at hg
      clear hr hz hbd
      go_enter Try.func11, Try.ntmps11
      go_wp2_with (first
        | (go_at_call 35; refine hm.mono ?_; rintro e w' ⟨rfl, rfl⟩)
        | (go_at_call 17; refine hg.mono ?_; rintro e w1 ⟨rfl, hb1⟩; have HB1 := hide hb1; clear hb1))
      go_ret2
      rw [HA.out.2]
      exact SetSays.bad _ _ _ _ HA.out.1 HB1.out
    · have HA : Hid (tickA c r = setA c r (getZ c r + 1) ∧ tickE c r = setE r (getZ c r + 1)) := by
        have hb : inB (getZ c r + 1) = true := inB_iff.2 ⟨by omega, by omega⟩
        unfold Hid tickA tickE setA setE; simp [hz, hr, hb]
      generalize getZ c r = y at *
      have hz2 : (y == 1048576) = false := by simpa using hz
      clear hr
      go_enter Try.func11, Try.ntmps11
      go_wp2_with (first
        | (go_at_call 35; refine hm.mono ?_; rintro e w' ⟨rfl, rfl⟩)
        | (go_at_call 17; refine hg.mono ?_; rintro e w1 ⟨rfl, hb1⟩; have HB1 := hide hb1; clear hb1)
        | (go_at_call 10; refine (Set_any _ _ _ c _ _ _ (HN.out.below HB1.out)).mono ?_; rintro e w2 ⟨hb2, v, rfl, hown⟩; have HO := hide hown; have HB2 := hide hb2; clear hown hb2))
      go_ret2
      rw [HA.out.1, HA.out.2]
      exact ⟨bel_next HB1.out HB2.out, _, rfl, HO.out.mono HB1.out.size⟩
  · have hm := mayRep_any r w
    rw [decide_eq_false hr] at hm
    have HA : Hid (tickA c r = none ∧ tickE c r = 1) := by unfold Hid tickA tickE; simp [hr]
    clear hr
    go_enter Try.func11, Try.ntmps11
    go_wp2_with (go_at_call 35; refine hm.mono ?_; rintro e w' ⟨rfl, rfl⟩)
    go_ret2
    rw [HA.out.2]
    exact SetSays.bad _ _ _ _ HA.out.1 (Below.refl _ _)
end Go.Proofs.Ytbeknlpoialgiaa
