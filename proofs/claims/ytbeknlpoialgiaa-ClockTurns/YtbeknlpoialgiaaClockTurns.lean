/- ClockTurns is true for every clock, replica and number: Check, Plain, Get, Sum, Set and Tick answer as the document's own. Conditions: none but the form's own. -/
import Derived.Test.YtbeknlpoialgiaaRows
import Derived.WalkKit
import Derived.ProofKit
import Derived.OpenShut
import Derived.ShutString
import Derived.ChangeOld
import Derived.Below
import Derived.SizedLaws
import Derived.Test.YtbeknlpoialgiaaCTurn
namespace Go.Proofs.Ytbeknlpoialgiaa.clockTurns
open Go.ChangeShapes Go.WideShapes Go.ChangeAt Go.RowKit
set_option linter.unusedVariables false

theorem own : ownKnob Try.prog.godebug = none := by kernel_rfl
theorem laidOut : laidOutB Try.prog = true := by kernel_rfl

set_option maxHeartbeats 16000000 in
set_option maxRecDepth 100000 in
theorem walk (v0 : Value) (a1 : Int) (a2 : Int) (w : World) (w0 : InN w v0) (w1 : (Lit.int .i64 a1).wf = true) (w2 : (Lit.int .i64 a2).wf = true) :
    Calls Try.prog 3 #[v0, .int .i64 a1, .int .i64 a2] w fun e w' => e = .returned (.bool true) ∧ Below w.heap.size w w' := by
  obtain ⟨a, na, ca, A, rfl, hA, _⟩ := w0
  have hna := hA.2.1
  have NA := hide hA
  have HB := hide (Below.refl w.heap.size w)
  clear hA w1 w2
  by_cases hl : na ≤ 50 ∧ 0 ≤ 50
  · have HLT := hide (light3_as a none na ca 0 0 w hna (by decide) true (decide_eq_true hl))
    clear hl hna
    generalize hsum : sumL A = sA
    by_cases hrep : 1 ≤ a1 ∧ a1 ≤ 5
    · obtain ⟨r, hr5, hr⟩ : ∃ r : Nat, r < 5 ∧ a1 = (r : Int) + 1 := ⟨a1.toNat - 1, by omega, by omega⟩
      subst hr
      have hr1 : ¬ ((r : Int) + 1 < 1) := by omega
      have hr2 : ¬ ((r : Int) + 1 > 5) := by omega
      have hbd := at5_bd A r
      obtain ⟨z, hzz⟩ : ∃ z, at5 A r = z := ⟨_, rfl⟩
      have hget : getZ A (r + 1) = z := by rw [getZ_in A r hr5, hzz]
      rw [hzz] at hbd
      clear hrep
      rcases hx : inB a2 with _ | _
      · have hno : ¬ (0 ≤ a2 ∧ a2 ≤ 1048576) := fun t => by have := inB_iff.2 t; rw [hx] at this; cases this
        by_cases hneg : a2 < 0
        · skip
          by_cases hz : at5 A r = 1048576
          · have hz2 : z = 1048576 := by omega
            rcases hmay : mayC A with _ | _
            · have hck : chk A = 1 := by unfold chk; rw [hmay]; rfl
              go_enter Try.func3, Try.ntmps3
              go_wp2_with fail
              refine (HLT.out).mono ?_
              rintro e u ⟨rfl, hw⟩
              replace hw := hw.symm
              subst hw
              go_wp2_with fail
              refine (set_bad _ _ _ A _ _ _ NA.out (fun t => absurd t.2 (by rw [hx]; decide))).mono ?_
              rintro e u ⟨pX, cX, rfl, hb⟩
              replace HB := hide (bel_next HB.out hb)
              replace NA := hide (NA.out.below hb)
              clear hb
              go_wp2_with fail
              refine (tick_full _ _ _ A r _ NA.out hr5 hz).mono ?_
              rintro e u ⟨pY, cY, rfl, hb⟩
              replace HB := hide (bel_next HB.out hb)
              replace NA := hide (NA.out.below hb)
              clear hb
              go_wp2_with fail
              refine (check_any _ _ _ A _ NA.out).mono ?_
              rintro e u ⟨rfl, hw⟩
              replace hw := hw.symm
              subst hw
              rw [hck]
              go_wp2_with fail
              refine (may_ref _ _ _ A _ NA.out).mono ?_
              rintro e u ⟨rfl, hw⟩
              replace hw := hw.symm
              subst hw
              rw [hmay]
              go_wp2_with fail
              refine (Plain_any _ _ _ A _ NA.out).mono ?_
              rintro e u ⟨vP, rfl, hO, hb⟩
              replace HB := hide (bel_next HB.out hb)
              replace NA := hide (NA.out.below hb)
              clear hb
              obtain ⟨pP, cP, hv, hns, _⟩ := hO.open
              subst hv
              have NP := hide hns
              clear hns hO
              go_wp2_with fail
              refine (plain_ref _ _ _ A _ NA.out).mono ?_
              rintro e u ⟨vQ, rfl, hO, hb⟩
              replace HB := hide (bel_next HB.out hb)
              replace NA := hide (NA.out.below hb)
              replace NP := hide (NP.out.below hb)
              clear hb
              obtain ⟨pQ, cQ, hv, hns, _⟩ := hO.open
              subst hv
              have NQ := hide hns
              clear hns hO
              go_wp2_with fail
              refine (same_any _ _ _ _ _ _ _ _ _ NP.out NQ.out).mono ?_
              rintro e u ⟨rfl, hb⟩
              replace HB := hide (bel_next HB.out hb)
              replace NA := hide (NA.out.below hb)
              replace NP := hide (NP.out.below hb)
              replace NQ := hide (NQ.out.below hb)
              clear hb
              rw [decide_eq_true (rfl : pln (vec A) = pln (vec A))]
              clear NP NQ
              go_wp2_with fail
              refine (Get_any _ _ _ A _ _ NA.out).mono ?_
              rintro e u ⟨rfl, hb⟩
              replace HB := hide (bel_next HB.out hb)
              replace NA := hide (NA.out.below hb)
              clear hb
              rw [hget]
              go_wp2_with fail
              refine (get_refZ _ _ _ A _ _ NA.out).mono ?_
              rintro e u ⟨rfl, hw⟩
              replace hw := hw.symm
              subst hw
              rw [hget]
              go_wp2_with fail
              refine (Sum_any _ _ _ A _ NA.out).mono ?_
              rintro e u ⟨rfl, hb⟩
              replace HB := hide (bel_next HB.out hb)
              replace NA := hide (NA.out.below hb)
              clear hb
              rw [hsum]
              go_wp2_with fail
              refine (sum_ref _ _ _ A _ NA.out).mono ?_
              rintro e u ⟨rfl, hw⟩
              replace hw := hw.symm
              subst hw
              rw [hsum]
              go_wp2_with fail
              refine (get_refZ _ _ _ A _ _ NA.out).mono ?_
              rintro e u ⟨rfl, hw⟩
              replace hw := hw.symm
              subst hw
              rw [hget]
              go_wp2_with fail
              refine (awake3 _).mono ?_
              rintro e u ⟨rfl, hb⟩
              replace HB := hide (bel_next HB.out hb)
              replace NA := hide (NA.out.below hb)
              clear hb
              go_wp2
              go_ret
              exact ⟨rfl, HB.out⟩
            · have hck : chk A = 0 := by unfold chk; rw [hmay]; rfl
              go_enter Try.func3, Try.ntmps3
              go_wp2_with fail
              refine (HLT.out).mono ?_
              rintro e u ⟨rfl, hw⟩
              replace hw := hw.symm
              subst hw
              go_wp2_with fail
              refine (set_bad _ _ _ A _ _ _ NA.out (fun t => absurd t.2 (by rw [hx]; decide))).mono ?_
              rintro e u ⟨pX, cX, rfl, hb⟩
              replace HB := hide (bel_next HB.out hb)
              replace NA := hide (NA.out.below hb)
              clear hb
              go_wp2_with fail
              refine (tick_full _ _ _ A r _ NA.out hr5 hz).mono ?_
              rintro e u ⟨pY, cY, rfl, hb⟩
              replace HB := hide (bel_next HB.out hb)
              replace NA := hide (NA.out.below hb)
              clear hb
              go_wp2_with fail
              refine (check_any _ _ _ A _ NA.out).mono ?_
              rintro e u ⟨rfl, hw⟩
              replace hw := hw.symm
              subst hw
              rw [hck]
              go_wp2_with fail
              refine (may_ref _ _ _ A _ NA.out).mono ?_
              rintro e u ⟨rfl, hw⟩
              replace hw := hw.symm
              subst hw
              rw [hmay]
              go_wp2_with fail
              refine (Plain_any _ _ _ A _ NA.out).mono ?_
              rintro e u ⟨vP, rfl, hO, hb⟩
              replace HB := hide (bel_next HB.out hb)
              replace NA := hide (NA.out.below hb)
              clear hb
              obtain ⟨pP, cP, hv, hns, _⟩ := hO.open
              subst hv
              have NP := hide hns
              clear hns hO
              go_wp2_with fail
              refine (plain_ref _ _ _ A _ NA.out).mono ?_
              rintro e u ⟨vQ, rfl, hO, hb⟩
              replace HB := hide (bel_next HB.out hb)
              replace NA := hide (NA.out.below hb)
              replace NP := hide (NP.out.below hb)
              clear hb
              obtain ⟨pQ, cQ, hv, hns, _⟩ := hO.open
              subst hv
              have NQ := hide hns
              clear hns hO
              go_wp2_with fail
              refine (same_any _ _ _ _ _ _ _ _ _ NP.out NQ.out).mono ?_
              rintro e u ⟨rfl, hb⟩
              replace HB := hide (bel_next HB.out hb)
              replace NA := hide (NA.out.below hb)
              replace NP := hide (NP.out.below hb)
              replace NQ := hide (NQ.out.below hb)
              clear hb
              rw [decide_eq_true (rfl : pln (vec A) = pln (vec A))]
              clear NP NQ
              go_wp2_with fail
              refine (Get_any _ _ _ A _ _ NA.out).mono ?_
              rintro e u ⟨rfl, hb⟩
              replace HB := hide (bel_next HB.out hb)
              replace NA := hide (NA.out.below hb)
              clear hb
              rw [hget]
              go_wp2_with fail
              refine (get_refZ _ _ _ A _ _ NA.out).mono ?_
              rintro e u ⟨rfl, hw⟩
              replace hw := hw.symm
              subst hw
              rw [hget]
              go_wp2_with fail
              refine (Sum_any _ _ _ A _ NA.out).mono ?_
              rintro e u ⟨rfl, hb⟩
              replace HB := hide (bel_next HB.out hb)
              replace NA := hide (NA.out.below hb)
              clear hb
              rw [hsum]
              go_wp2_with fail
              refine (sum_ref _ _ _ A _ NA.out).mono ?_
              rintro e u ⟨rfl, hw⟩
              replace hw := hw.symm
              subst hw
              rw [hsum]
              go_wp2_with fail
              refine (get_refZ _ _ _ A _ _ NA.out).mono ?_
              rintro e u ⟨rfl, hw⟩
              replace hw := hw.symm
              subst hw
              rw [hget]
              go_wp2_with fail
              refine (awake3 _).mono ?_
              rintro e u ⟨rfl, hb⟩
              replace HB := hide (bel_next HB.out hb)
              replace NA := hide (NA.out.below hb)
              clear hb
              go_wp2
              go_ret
              exact ⟨rfl, HB.out⟩
          · have hz2 : ¬ z = 1048576 := by omega
            have hz3 : (z == 1048576) = false := by simpa using hz2
            rcases hmay : mayC A with _ | _
            · have hck : chk A = 1 := by unfold chk; rw [hmay]; rfl
              go_enter Try.func3, Try.ntmps3
              go_wp2_with fail
              refine (HLT.out).mono ?_
              rintro e u ⟨rfl, hw⟩
              replace hw := hw.symm
              subst hw
              go_wp2_with fail
              refine (set_bad _ _ _ A _ _ _ NA.out (fun t => absurd t.2 (by rw [hx]; decide))).mono ?_
              rintro e u ⟨pX, cX, rfl, hb⟩
              replace HB := hide (bel_next HB.out hb)
              replace NA := hide (NA.out.below hb)
              clear hb
              go_wp2_with fail
              refine (tick_good _ _ _ A r _ NA.out hr5 hz).mono ?_
              rintro e u ⟨vY, rfl, hO, hb⟩
              replace HB := hide (bel_next HB.out hb)
              replace NA := hide (NA.out.below hb)
              clear hb
              obtain ⟨pY, cY, hv, hns, _⟩ := hO.open
              subst hv
              have NY := hide hns
              clear hns hO
              go_wp2_with fail
              refine (check_any _ _ _ A _ NA.out).mono ?_
              rintro e u ⟨rfl, hw⟩
              replace hw := hw.symm
              subst hw
              rw [hck]
              go_wp2_with fail
              refine (may_ref _ _ _ A _ NA.out).mono ?_
              rintro e u ⟨rfl, hw⟩
              replace hw := hw.symm
              subst hw
              rw [hmay]
              go_wp2_with fail
              refine (Plain_any _ _ _ A _ NA.out).mono ?_
              rintro e u ⟨vP, rfl, hO, hb⟩
              replace HB := hide (bel_next HB.out hb)
              replace NA := hide (NA.out.below hb)
              replace NY := hide (NY.out.below hb)
              clear hb
              obtain ⟨pP, cP, hv, hns, _⟩ := hO.open
              subst hv
              have NP := hide hns
              clear hns hO
              go_wp2_with fail
              refine (plain_ref _ _ _ A _ NA.out).mono ?_
              rintro e u ⟨vQ, rfl, hO, hb⟩
              replace HB := hide (bel_next HB.out hb)
              replace NA := hide (NA.out.below hb)
              replace NY := hide (NY.out.below hb)
              replace NP := hide (NP.out.below hb)
              clear hb
              obtain ⟨pQ, cQ, hv, hns, _⟩ := hO.open
              subst hv
              have NQ := hide hns
              clear hns hO
              go_wp2_with fail
              refine (same_any _ _ _ _ _ _ _ _ _ NP.out NQ.out).mono ?_
              rintro e u ⟨rfl, hb⟩
              replace HB := hide (bel_next HB.out hb)
              replace NA := hide (NA.out.below hb)
              replace NY := hide (NY.out.below hb)
              replace NP := hide (NP.out.below hb)
              replace NQ := hide (NQ.out.below hb)
              clear hb
              rw [decide_eq_true (rfl : pln (vec A) = pln (vec A))]
              clear NP NQ
              go_wp2_with fail
              refine (Get_any _ _ _ A _ _ NA.out).mono ?_
              rintro e u ⟨rfl, hb⟩
              replace HB := hide (bel_next HB.out hb)
              replace NA := hide (NA.out.below hb)
              replace NY := hide (NY.out.below hb)
              clear hb
              rw [hget]
              go_wp2_with fail
              refine (get_refZ _ _ _ A _ _ NA.out).mono ?_
              rintro e u ⟨rfl, hw⟩
              replace hw := hw.symm
              subst hw
              rw [hget]
              go_wp2_with fail
              refine (Sum_any _ _ _ A _ NA.out).mono ?_
              rintro e u ⟨rfl, hb⟩
              replace HB := hide (bel_next HB.out hb)
              replace NA := hide (NA.out.below hb)
              replace NY := hide (NY.out.below hb)
              clear hb
              rw [hsum]
              go_wp2_with fail
              refine (sum_ref _ _ _ A _ NA.out).mono ?_
              rintro e u ⟨rfl, hw⟩
              replace hw := hw.symm
              subst hw
              rw [hsum]
              go_wp2_with fail
              refine (get_refZ _ _ _ A _ _ NA.out).mono ?_
              rintro e u ⟨rfl, hw⟩
              replace hw := hw.symm
              subst hw
              rw [hget]
              go_wp2_with fail
              refine (set_ref _ _ _ A _ (z + 1) r rfl hr5 (by omega) (by omega) _ NA.out).mono ?_
              rintro e u ⟨vT, rfl, hO, hb⟩
              replace HB := hide (bel_next HB.out hb)
              replace NA := hide (NA.out.below hb)
              replace NY := hide (NY.out.below hb)
              clear hb
              obtain ⟨pT, cT, hv, hns, _⟩ := hO.open
              subst hv
              have NT := hide hns
              clear hns hO
              rw [hzz] at NY
              go_wp2_with fail
              refine (same_any _ _ _ _ _ _ _ _ _ NY.out NT.out).mono ?_
              rintro e u ⟨rfl, hb⟩
              replace HB := hide (bel_next HB.out hb)
              replace NA := hide (NA.out.below hb)
              replace NY := hide (NY.out.below hb)
              replace NT := hide (NT.out.below hb)
              clear hb
              rw [decide_eq_true (rfl : pln (setL A r (z + 1)) = pln (setL A r (z + 1)))]
              go_wp2_with fail
              refine (awake3 _).mono ?_
              rintro e u ⟨rfl, hb⟩
              replace HB := hide (bel_next HB.out hb)
              replace NA := hide (NA.out.below hb)
              replace NY := hide (NY.out.below hb)
              replace NT := hide (NT.out.below hb)
              clear hb
              go_wp2
              go_ret
              exact ⟨rfl, HB.out⟩
            · have hck : chk A = 0 := by unfold chk; rw [hmay]; rfl
              go_enter Try.func3, Try.ntmps3
              go_wp2_with fail
              refine (HLT.out).mono ?_
              rintro e u ⟨rfl, hw⟩
              replace hw := hw.symm
              subst hw
              go_wp2_with fail
              refine (set_bad _ _ _ A _ _ _ NA.out (fun t => absurd t.2 (by rw [hx]; decide))).mono ?_
              rintro e u ⟨pX, cX, rfl, hb⟩
              replace HB := hide (bel_next HB.out hb)
              replace NA := hide (NA.out.below hb)
              clear hb
              go_wp2_with fail
              refine (tick_good _ _ _ A r _ NA.out hr5 hz).mono ?_
              rintro e u ⟨vY, rfl, hO, hb⟩
              replace HB := hide (bel_next HB.out hb)
              replace NA := hide (NA.out.below hb)
              clear hb
              obtain ⟨pY, cY, hv, hns, _⟩ := hO.open
              subst hv
              have NY := hide hns
              clear hns hO
              go_wp2_with fail
              refine (check_any _ _ _ A _ NA.out).mono ?_
              rintro e u ⟨rfl, hw⟩
              replace hw := hw.symm
              subst hw
              rw [hck]
              go_wp2_with fail
              refine (may_ref _ _ _ A _ NA.out).mono ?_
              rintro e u ⟨rfl, hw⟩
              replace hw := hw.symm
              subst hw
              rw [hmay]
              go_wp2_with fail
              refine (Plain_any _ _ _ A _ NA.out).mono ?_
              rintro e u ⟨vP, rfl, hO, hb⟩
              replace HB := hide (bel_next HB.out hb)
              replace NA := hide (NA.out.below hb)
              replace NY := hide (NY.out.below hb)
              clear hb
              obtain ⟨pP, cP, hv, hns, _⟩ := hO.open
              subst hv
              have NP := hide hns
              clear hns hO
              go_wp2_with fail
              refine (plain_ref _ _ _ A _ NA.out).mono ?_
              rintro e u ⟨vQ, rfl, hO, hb⟩
              replace HB := hide (bel_next HB.out hb)
              replace NA := hide (NA.out.below hb)
              replace NY := hide (NY.out.below hb)
              replace NP := hide (NP.out.below hb)
              clear hb
              obtain ⟨pQ, cQ, hv, hns, _⟩ := hO.open
              subst hv
              have NQ := hide hns
              clear hns hO
              go_wp2_with fail
              refine (same_any _ _ _ _ _ _ _ _ _ NP.out NQ.out).mono ?_
              rintro e u ⟨rfl, hb⟩
              replace HB := hide (bel_next HB.out hb)
              replace NA := hide (NA.out.below hb)
              replace NY := hide (NY.out.below hb)
              replace NP := hide (NP.out.below hb)
              replace NQ := hide (NQ.out.below hb)
              clear hb
              rw [decide_eq_true (rfl : pln (vec A) = pln (vec A))]
              clear NP NQ
              go_wp2_with fail
              refine (Get_any _ _ _ A _ _ NA.out).mono ?_
              rintro e u ⟨rfl, hb⟩
              replace HB := hide (bel_next HB.out hb)
              replace NA := hide (NA.out.below hb)
              replace NY := hide (NY.out.below hb)
              clear hb
              rw [hget]
              go_wp2_with fail
              refine (get_refZ _ _ _ A _ _ NA.out).mono ?_
              rintro e u ⟨rfl, hw⟩
              replace hw := hw.symm
              subst hw
              rw [hget]
              go_wp2_with fail
              refine (Sum_any _ _ _ A _ NA.out).mono ?_
              rintro e u ⟨rfl, hb⟩
              replace HB := hide (bel_next HB.out hb)
              replace NA := hide (NA.out.below hb)
              replace NY := hide (NY.out.below hb)
              clear hb
              rw [hsum]
              go_wp2_with fail
              refine (sum_ref _ _ _ A _ NA.out).mono ?_
              rintro e u ⟨rfl, hw⟩
              replace hw := hw.symm
              subst hw
              rw [hsum]
              go_wp2_with fail
              refine (get_refZ _ _ _ A _ _ NA.out).mono ?_
              rintro e u ⟨rfl, hw⟩
              replace hw := hw.symm
              subst hw
              rw [hget]
              go_wp2_with fail
              refine (set_ref _ _ _ A _ (z + 1) r rfl hr5 (by omega) (by omega) _ NA.out).mono ?_
              rintro e u ⟨vT, rfl, hO, hb⟩
              replace HB := hide (bel_next HB.out hb)
              replace NA := hide (NA.out.below hb)
              replace NY := hide (NY.out.below hb)
              clear hb
              obtain ⟨pT, cT, hv, hns, _⟩ := hO.open
              subst hv
              have NT := hide hns
              clear hns hO
              rw [hzz] at NY
              go_wp2_with fail
              refine (same_any _ _ _ _ _ _ _ _ _ NY.out NT.out).mono ?_
              rintro e u ⟨rfl, hb⟩
              replace HB := hide (bel_next HB.out hb)
              replace NA := hide (NA.out.below hb)
              replace NY := hide (NY.out.below hb)
              replace NT := hide (NT.out.below hb)
              clear hb
              rw [decide_eq_true (rfl : pln (setL A r (z + 1)) = pln (setL A r (z + 1)))]
              go_wp2_with fail
              refine (awake3 _).mono ?_
              rintro e u ⟨rfl, hb⟩
              replace HB := hide (bel_next HB.out hb)
              replace NA := hide (NA.out.below hb)
              replace NY := hide (NY.out.below hb)
              replace NT := hide (NT.out.below hb)
              clear hb
              go_wp2
              go_ret
              exact ⟨rfl, HB.out⟩
        · have hbig : a2 > 1048576 := by omega
          by_cases hz : at5 A r = 1048576
          · have hz2 : z = 1048576 := by omega
            rcases hmay : mayC A with _ | _
            · have hck : chk A = 1 := by unfold chk; rw [hmay]; rfl
              go_enter Try.func3, Try.ntmps3
              go_wp2_with fail
              refine (HLT.out).mono ?_
              rintro e u ⟨rfl, hw⟩
              replace hw := hw.symm
              subst hw
              go_wp2_with fail
              refine (set_bad _ _ _ A _ _ _ NA.out (fun t => absurd t.2 (by rw [hx]; decide))).mono ?_
              rintro e u ⟨pX, cX, rfl, hb⟩
              replace HB := hide (bel_next HB.out hb)
              replace NA := hide (NA.out.below hb)
              clear hb
              go_wp2_with fail
              refine (tick_full _ _ _ A r _ NA.out hr5 hz).mono ?_
              rintro e u ⟨pY, cY, rfl, hb⟩
              replace HB := hide (bel_next HB.out hb)
              replace NA := hide (NA.out.below hb)
              clear hb
              go_wp2_with fail
              refine (check_any _ _ _ A _ NA.out).mono ?_
              rintro e u ⟨rfl, hw⟩
              replace hw := hw.symm
              subst hw
              rw [hck]
              go_wp2_with fail
              refine (may_ref _ _ _ A _ NA.out).mono ?_
              rintro e u ⟨rfl, hw⟩
              replace hw := hw.symm
              subst hw
              rw [hmay]
              go_wp2_with fail
              refine (Plain_any _ _ _ A _ NA.out).mono ?_
              rintro e u ⟨vP, rfl, hO, hb⟩
              replace HB := hide (bel_next HB.out hb)
              replace NA := hide (NA.out.below hb)
              clear hb
              obtain ⟨pP, cP, hv, hns, _⟩ := hO.open
              subst hv
              have NP := hide hns
              clear hns hO
              go_wp2_with fail
              refine (plain_ref _ _ _ A _ NA.out).mono ?_
              rintro e u ⟨vQ, rfl, hO, hb⟩
              replace HB := hide (bel_next HB.out hb)
              replace NA := hide (NA.out.below hb)
              replace NP := hide (NP.out.below hb)
              clear hb
              obtain ⟨pQ, cQ, hv, hns, _⟩ := hO.open
              subst hv
              have NQ := hide hns
              clear hns hO
              go_wp2_with fail
              refine (same_any _ _ _ _ _ _ _ _ _ NP.out NQ.out).mono ?_
              rintro e u ⟨rfl, hb⟩
              replace HB := hide (bel_next HB.out hb)
              replace NA := hide (NA.out.below hb)
              replace NP := hide (NP.out.below hb)
              replace NQ := hide (NQ.out.below hb)
              clear hb
              rw [decide_eq_true (rfl : pln (vec A) = pln (vec A))]
              clear NP NQ
              go_wp2_with fail
              refine (Get_any _ _ _ A _ _ NA.out).mono ?_
              rintro e u ⟨rfl, hb⟩
              replace HB := hide (bel_next HB.out hb)
              replace NA := hide (NA.out.below hb)
              clear hb
              rw [hget]
              go_wp2_with fail
              refine (get_refZ _ _ _ A _ _ NA.out).mono ?_
              rintro e u ⟨rfl, hw⟩
              replace hw := hw.symm
              subst hw
              rw [hget]
              go_wp2_with fail
              refine (Sum_any _ _ _ A _ NA.out).mono ?_
              rintro e u ⟨rfl, hb⟩
              replace HB := hide (bel_next HB.out hb)
              replace NA := hide (NA.out.below hb)
              clear hb
              rw [hsum]
              go_wp2_with fail
              refine (sum_ref _ _ _ A _ NA.out).mono ?_
              rintro e u ⟨rfl, hw⟩
              replace hw := hw.symm
              subst hw
              rw [hsum]
              go_wp2_with fail
              refine (get_refZ _ _ _ A _ _ NA.out).mono ?_
              rintro e u ⟨rfl, hw⟩
              replace hw := hw.symm
              subst hw
              rw [hget]
              go_wp2_with fail
              refine (awake3 _).mono ?_
              rintro e u ⟨rfl, hb⟩
              replace HB := hide (bel_next HB.out hb)
              replace NA := hide (NA.out.below hb)
              clear hb
              go_wp2
              go_ret
              exact ⟨rfl, HB.out⟩
            · have hck : chk A = 0 := by unfold chk; rw [hmay]; rfl
              go_enter Try.func3, Try.ntmps3
              go_wp2_with fail
              refine (HLT.out).mono ?_
              rintro e u ⟨rfl, hw⟩
              replace hw := hw.symm
              subst hw
              go_wp2_with fail
              refine (set_bad _ _ _ A _ _ _ NA.out (fun t => absurd t.2 (by rw [hx]; decide))).mono ?_
              rintro e u ⟨pX, cX, rfl, hb⟩
              replace HB := hide (bel_next HB.out hb)
              replace NA := hide (NA.out.below hb)
              clear hb
              go_wp2_with fail
              refine (tick_full _ _ _ A r _ NA.out hr5 hz).mono ?_
              rintro e u ⟨pY, cY, rfl, hb⟩
              replace HB := hide (bel_next HB.out hb)
              replace NA := hide (NA.out.below hb)
              clear hb
              go_wp2_with fail
              refine (check_any _ _ _ A _ NA.out).mono ?_
              rintro e u ⟨rfl, hw⟩
              replace hw := hw.symm
              subst hw
              rw [hck]
              go_wp2_with fail
              refine (may_ref _ _ _ A _ NA.out).mono ?_
              rintro e u ⟨rfl, hw⟩
              replace hw := hw.symm
              subst hw
              rw [hmay]
              go_wp2_with fail
              refine (Plain_any _ _ _ A _ NA.out).mono ?_
              rintro e u ⟨vP, rfl, hO, hb⟩
              replace HB := hide (bel_next HB.out hb)
              replace NA := hide (NA.out.below hb)
              clear hb
              obtain ⟨pP, cP, hv, hns, _⟩ := hO.open
              subst hv
              have NP := hide hns
              clear hns hO
              go_wp2_with fail
              refine (plain_ref _ _ _ A _ NA.out).mono ?_
              rintro e u ⟨vQ, rfl, hO, hb⟩
              replace HB := hide (bel_next HB.out hb)
              replace NA := hide (NA.out.below hb)
              replace NP := hide (NP.out.below hb)
              clear hb
              obtain ⟨pQ, cQ, hv, hns, _⟩ := hO.open
              subst hv
              have NQ := hide hns
              clear hns hO
              go_wp2_with fail
              refine (same_any _ _ _ _ _ _ _ _ _ NP.out NQ.out).mono ?_
              rintro e u ⟨rfl, hb⟩
              replace HB := hide (bel_next HB.out hb)
              replace NA := hide (NA.out.below hb)
              replace NP := hide (NP.out.below hb)
              replace NQ := hide (NQ.out.below hb)
              clear hb
              rw [decide_eq_true (rfl : pln (vec A) = pln (vec A))]
              clear NP NQ
              go_wp2_with fail
              refine (Get_any _ _ _ A _ _ NA.out).mono ?_
              rintro e u ⟨rfl, hb⟩
              replace HB := hide (bel_next HB.out hb)
              replace NA := hide (NA.out.below hb)
              clear hb
              rw [hget]
              go_wp2_with fail
              refine (get_refZ _ _ _ A _ _ NA.out).mono ?_
              rintro e u ⟨rfl, hw⟩
              replace hw := hw.symm
              subst hw
              rw [hget]
              go_wp2_with fail
              refine (Sum_any _ _ _ A _ NA.out).mono ?_
              rintro e u ⟨rfl, hb⟩
              replace HB := hide (bel_next HB.out hb)
              replace NA := hide (NA.out.below hb)
              clear hb
              rw [hsum]
              go_wp2_with fail
              refine (sum_ref _ _ _ A _ NA.out).mono ?_
              rintro e u ⟨rfl, hw⟩
              replace hw := hw.symm
              subst hw
              rw [hsum]
              go_wp2_with fail
              refine (get_refZ _ _ _ A _ _ NA.out).mono ?_
              rintro e u ⟨rfl, hw⟩
              replace hw := hw.symm
              subst hw
              rw [hget]
              go_wp2_with fail
              refine (awake3 _).mono ?_
              rintro e u ⟨rfl, hb⟩
              replace HB := hide (bel_next HB.out hb)
              replace NA := hide (NA.out.below hb)
              clear hb
              go_wp2
              go_ret
              exact ⟨rfl, HB.out⟩
          · have hz2 : ¬ z = 1048576 := by omega
            have hz3 : (z == 1048576) = false := by simpa using hz2
            rcases hmay : mayC A with _ | _
            · have hck : chk A = 1 := by unfold chk; rw [hmay]; rfl
              go_enter Try.func3, Try.ntmps3
              go_wp2_with fail
              refine (HLT.out).mono ?_
              rintro e u ⟨rfl, hw⟩
              replace hw := hw.symm
              subst hw
              go_wp2_with fail
              refine (set_bad _ _ _ A _ _ _ NA.out (fun t => absurd t.2 (by rw [hx]; decide))).mono ?_
              rintro e u ⟨pX, cX, rfl, hb⟩
              replace HB := hide (bel_next HB.out hb)
              replace NA := hide (NA.out.below hb)
              clear hb
              go_wp2_with fail
              refine (tick_good _ _ _ A r _ NA.out hr5 hz).mono ?_
              rintro e u ⟨vY, rfl, hO, hb⟩
              replace HB := hide (bel_next HB.out hb)
              replace NA := hide (NA.out.below hb)
              clear hb
              obtain ⟨pY, cY, hv, hns, _⟩ := hO.open
              subst hv
              have NY := hide hns
              clear hns hO
              go_wp2_with fail
              refine (check_any _ _ _ A _ NA.out).mono ?_
              rintro e u ⟨rfl, hw⟩
              replace hw := hw.symm
              subst hw
              rw [hck]
              go_wp2_with fail
              refine (may_ref _ _ _ A _ NA.out).mono ?_
              rintro e u ⟨rfl, hw⟩
              replace hw := hw.symm
              subst hw
              rw [hmay]
              go_wp2_with fail
              refine (Plain_any _ _ _ A _ NA.out).mono ?_
              rintro e u ⟨vP, rfl, hO, hb⟩
              replace HB := hide (bel_next HB.out hb)
              replace NA := hide (NA.out.below hb)
              replace NY := hide (NY.out.below hb)
              clear hb
              obtain ⟨pP, cP, hv, hns, _⟩ := hO.open
              subst hv
              have NP := hide hns
              clear hns hO
              go_wp2_with fail
              refine (plain_ref _ _ _ A _ NA.out).mono ?_
              rintro e u ⟨vQ, rfl, hO, hb⟩
              replace HB := hide (bel_next HB.out hb)
              replace NA := hide (NA.out.below hb)
              replace NY := hide (NY.out.below hb)
              replace NP := hide (NP.out.below hb)
              clear hb
              obtain ⟨pQ, cQ, hv, hns, _⟩ := hO.open
              subst hv
              have NQ := hide hns
              clear hns hO
              go_wp2_with fail
              refine (same_any _ _ _ _ _ _ _ _ _ NP.out NQ.out).mono ?_
              rintro e u ⟨rfl, hb⟩
              replace HB := hide (bel_next HB.out hb)
              replace NA := hide (NA.out.below hb)
              replace NY := hide (NY.out.below hb)
              replace NP := hide (NP.out.below hb)
              replace NQ := hide (NQ.out.below hb)
              clear hb
              rw [decide_eq_true (rfl : pln (vec A) = pln (vec A))]
              clear NP NQ
              go_wp2_with fail
              refine (Get_any _ _ _ A _ _ NA.out).mono ?_
              rintro e u ⟨rfl, hb⟩
              replace HB := hide (bel_next HB.out hb)
              replace NA := hide (NA.out.below hb)
              replace NY := hide (NY.out.below hb)
              clear hb
              rw [hget]
              go_wp2_with fail
              refine (get_refZ _ _ _ A _ _ NA.out).mono ?_
              rintro e u ⟨rfl, hw⟩
              replace hw := hw.symm
              subst hw
              rw [hget]
              go_wp2_with fail
              refine (Sum_any _ _ _ A _ NA.out).mono ?_
              rintro e u ⟨rfl, hb⟩
              replace HB := hide (bel_next HB.out hb)
              replace NA := hide (NA.out.below hb)
              replace NY := hide (NY.out.below hb)
              clear hb
              rw [hsum]
              go_wp2_with fail
              refine (sum_ref _ _ _ A _ NA.out).mono ?_
              rintro e u ⟨rfl, hw⟩
              replace hw := hw.symm
              subst hw
              rw [hsum]
              go_wp2_with fail
              refine (get_refZ _ _ _ A _ _ NA.out).mono ?_
              rintro e u ⟨rfl, hw⟩
              replace hw := hw.symm
              subst hw
              rw [hget]
              go_wp2_with fail
              refine (set_ref _ _ _ A _ (z + 1) r rfl hr5 (by omega) (by omega) _ NA.out).mono ?_
              rintro e u ⟨vT, rfl, hO, hb⟩
              replace HB := hide (bel_next HB.out hb)
              replace NA := hide (NA.out.below hb)
              replace NY := hide (NY.out.below hb)
              clear hb
              obtain ⟨pT, cT, hv, hns, _⟩ := hO.open
              subst hv
              have NT := hide hns
              clear hns hO
              rw [hzz] at NY
              go_wp2_with fail
              refine (same_any _ _ _ _ _ _ _ _ _ NY.out NT.out).mono ?_
              rintro e u ⟨rfl, hb⟩
              replace HB := hide (bel_next HB.out hb)
              replace NA := hide (NA.out.below hb)
              replace NY := hide (NY.out.below hb)
              replace NT := hide (NT.out.below hb)
              clear hb
              rw [decide_eq_true (rfl : pln (setL A r (z + 1)) = pln (setL A r (z + 1)))]
              go_wp2_with fail
              refine (awake3 _).mono ?_
              rintro e u ⟨rfl, hb⟩
              replace HB := hide (bel_next HB.out hb)
              replace NA := hide (NA.out.below hb)
              replace NY := hide (NY.out.below hb)
              replace NT := hide (NT.out.below hb)
              clear hb
              go_wp2
              go_ret
              exact ⟨rfl, HB.out⟩
            · have hck : chk A = 0 := by unfold chk; rw [hmay]; rfl
              go_enter Try.func3, Try.ntmps3
              go_wp2_with fail
              refine (HLT.out).mono ?_
              rintro e u ⟨rfl, hw⟩
              replace hw := hw.symm
              subst hw
              go_wp2_with fail
              refine (set_bad _ _ _ A _ _ _ NA.out (fun t => absurd t.2 (by rw [hx]; decide))).mono ?_
              rintro e u ⟨pX, cX, rfl, hb⟩
              replace HB := hide (bel_next HB.out hb)
              replace NA := hide (NA.out.below hb)
              clear hb
              go_wp2_with fail
              refine (tick_good _ _ _ A r _ NA.out hr5 hz).mono ?_
              rintro e u ⟨vY, rfl, hO, hb⟩
              replace HB := hide (bel_next HB.out hb)
              replace NA := hide (NA.out.below hb)
              clear hb
              obtain ⟨pY, cY, hv, hns, _⟩ := hO.open
              subst hv
              have NY := hide hns
              clear hns hO
              go_wp2_with fail
              refine (check_any _ _ _ A _ NA.out).mono ?_
              rintro e u ⟨rfl, hw⟩
              replace hw := hw.symm
              subst hw
              rw [hck]
              go_wp2_with fail
              refine (may_ref _ _ _ A _ NA.out).mono ?_
              rintro e u ⟨rfl, hw⟩
              replace hw := hw.symm
              subst hw
              rw [hmay]
              go_wp2_with fail
              refine (Plain_any _ _ _ A _ NA.out).mono ?_
              rintro e u ⟨vP, rfl, hO, hb⟩
              replace HB := hide (bel_next HB.out hb)
              replace NA := hide (NA.out.below hb)
              replace NY := hide (NY.out.below hb)
              clear hb
              obtain ⟨pP, cP, hv, hns, _⟩ := hO.open
              subst hv
              have NP := hide hns
              clear hns hO
              go_wp2_with fail
              refine (plain_ref _ _ _ A _ NA.out).mono ?_
              rintro e u ⟨vQ, rfl, hO, hb⟩
              replace HB := hide (bel_next HB.out hb)
              replace NA := hide (NA.out.below hb)
              replace NY := hide (NY.out.below hb)
              replace NP := hide (NP.out.below hb)
              clear hb
              obtain ⟨pQ, cQ, hv, hns, _⟩ := hO.open
              subst hv
              have NQ := hide hns
              clear hns hO
              go_wp2_with fail
              refine (same_any _ _ _ _ _ _ _ _ _ NP.out NQ.out).mono ?_
              rintro e u ⟨rfl, hb⟩
              replace HB := hide (bel_next HB.out hb)
              replace NA := hide (NA.out.below hb)
              replace NY := hide (NY.out.below hb)
              replace NP := hide (NP.out.below hb)
              replace NQ := hide (NQ.out.below hb)
              clear hb
              rw [decide_eq_true (rfl : pln (vec A) = pln (vec A))]
              clear NP NQ
              go_wp2_with fail
              refine (Get_any _ _ _ A _ _ NA.out).mono ?_
              rintro e u ⟨rfl, hb⟩
              replace HB := hide (bel_next HB.out hb)
              replace NA := hide (NA.out.below hb)
              replace NY := hide (NY.out.below hb)
              clear hb
              rw [hget]
              go_wp2_with fail
              refine (get_refZ _ _ _ A _ _ NA.out).mono ?_
              rintro e u ⟨rfl, hw⟩
              replace hw := hw.symm
              subst hw
              rw [hget]
              go_wp2_with fail
              refine (Sum_any _ _ _ A _ NA.out).mono ?_
              rintro e u ⟨rfl, hb⟩
              replace HB := hide (bel_next HB.out hb)
              replace NA := hide (NA.out.below hb)
              replace NY := hide (NY.out.below hb)
              clear hb
              rw [hsum]
              go_wp2_with fail
              refine (sum_ref _ _ _ A _ NA.out).mono ?_
              rintro e u ⟨rfl, hw⟩
              replace hw := hw.symm
              subst hw
              rw [hsum]
              go_wp2_with fail
              refine (get_refZ _ _ _ A _ _ NA.out).mono ?_
              rintro e u ⟨rfl, hw⟩
              replace hw := hw.symm
              subst hw
              rw [hget]
              go_wp2_with fail
              refine (set_ref _ _ _ A _ (z + 1) r rfl hr5 (by omega) (by omega) _ NA.out).mono ?_
              rintro e u ⟨vT, rfl, hO, hb⟩
              replace HB := hide (bel_next HB.out hb)
              replace NA := hide (NA.out.below hb)
              replace NY := hide (NY.out.below hb)
              clear hb
              obtain ⟨pT, cT, hv, hns, _⟩ := hO.open
              subst hv
              have NT := hide hns
              clear hns hO
              rw [hzz] at NY
              go_wp2_with fail
              refine (same_any _ _ _ _ _ _ _ _ _ NY.out NT.out).mono ?_
              rintro e u ⟨rfl, hb⟩
              replace HB := hide (bel_next HB.out hb)
              replace NA := hide (NA.out.below hb)
              replace NY := hide (NY.out.below hb)
              replace NT := hide (NT.out.below hb)
              clear hb
              rw [decide_eq_true (rfl : pln (setL A r (z + 1)) = pln (setL A r (z + 1)))]
              go_wp2_with fail
              refine (awake3 _).mono ?_
              rintro e u ⟨rfl, hb⟩
              replace HB := hide (bel_next HB.out hb)
              replace NA := hide (NA.out.below hb)
              replace NY := hide (NY.out.below hb)
              replace NT := hide (NT.out.below hb)
              clear hb
              go_wp2
              go_ret
              exact ⟨rfl, HB.out⟩
      · obtain ⟨hx0, hx1⟩ := inB_iff.1 hx
        have hn1 : ¬ (a2 < 0) := by omega
        have hn2 : ¬ (a2 > 1048576) := by omega
        by_cases hz : at5 A r = 1048576
        · have hz2 : z = 1048576 := by omega
          rcases hmay : mayC A with _ | _
          · have hck : chk A = 1 := by unfold chk; rw [hmay]; rfl
            go_enter Try.func3, Try.ntmps3
            go_wp2_with fail
            refine (HLT.out).mono ?_
            rintro e u ⟨rfl, hw⟩
            replace hw := hw.symm
            subst hw
            go_wp2_with fail
            refine (set_good _ _ _ A r _ _ NA.out hr5 hx).mono ?_
            rintro e u ⟨vX, rfl, hO, hb⟩
            replace HB := hide (bel_next HB.out hb)
            replace NA := hide (NA.out.below hb)
            clear hb
            obtain ⟨pX, cX, hv, hns, _⟩ := hO.open
            subst hv
            have NX := hide hns
            clear hns hO
            go_wp2_with fail
            refine (tick_full _ _ _ A r _ NA.out hr5 hz).mono ?_
            rintro e u ⟨pY, cY, rfl, hb⟩
            replace HB := hide (bel_next HB.out hb)
            replace NA := hide (NA.out.below hb)
            replace NX := hide (NX.out.below hb)
            clear hb
            go_wp2_with fail
            refine (check_any _ _ _ A _ NA.out).mono ?_
            rintro e u ⟨rfl, hw⟩
            replace hw := hw.symm
            subst hw
            rw [hck]
            go_wp2_with fail
            refine (may_ref _ _ _ A _ NA.out).mono ?_
            rintro e u ⟨rfl, hw⟩
            replace hw := hw.symm
            subst hw
            rw [hmay]
            go_wp2_with fail
            refine (Plain_any _ _ _ A _ NA.out).mono ?_
            rintro e u ⟨vP, rfl, hO, hb⟩
            replace HB := hide (bel_next HB.out hb)
            replace NA := hide (NA.out.below hb)
            replace NX := hide (NX.out.below hb)
            clear hb
            obtain ⟨pP, cP, hv, hns, _⟩ := hO.open
            subst hv
            have NP := hide hns
            clear hns hO
            go_wp2_with fail
            refine (plain_ref _ _ _ A _ NA.out).mono ?_
            rintro e u ⟨vQ, rfl, hO, hb⟩
            replace HB := hide (bel_next HB.out hb)
            replace NA := hide (NA.out.below hb)
            replace NX := hide (NX.out.below hb)
            replace NP := hide (NP.out.below hb)
            clear hb
            obtain ⟨pQ, cQ, hv, hns, _⟩ := hO.open
            subst hv
            have NQ := hide hns
            clear hns hO
            go_wp2_with fail
            refine (same_any _ _ _ _ _ _ _ _ _ NP.out NQ.out).mono ?_
            rintro e u ⟨rfl, hb⟩
            replace HB := hide (bel_next HB.out hb)
            replace NA := hide (NA.out.below hb)
            replace NX := hide (NX.out.below hb)
            replace NP := hide (NP.out.below hb)
            replace NQ := hide (NQ.out.below hb)
            clear hb
            rw [decide_eq_true (rfl : pln (vec A) = pln (vec A))]
            clear NP NQ
            go_wp2_with fail
            refine (Get_any _ _ _ A _ _ NA.out).mono ?_
            rintro e u ⟨rfl, hb⟩
            replace HB := hide (bel_next HB.out hb)
            replace NA := hide (NA.out.below hb)
            replace NX := hide (NX.out.below hb)
            clear hb
            rw [hget]
            go_wp2_with fail
            refine (get_refZ _ _ _ A _ _ NA.out).mono ?_
            rintro e u ⟨rfl, hw⟩
            replace hw := hw.symm
            subst hw
            rw [hget]
            go_wp2_with fail
            refine (Sum_any _ _ _ A _ NA.out).mono ?_
            rintro e u ⟨rfl, hb⟩
            replace HB := hide (bel_next HB.out hb)
            replace NA := hide (NA.out.below hb)
            replace NX := hide (NX.out.below hb)
            clear hb
            rw [hsum]
            go_wp2_with fail
            refine (sum_ref _ _ _ A _ NA.out).mono ?_
            rintro e u ⟨rfl, hw⟩
            replace hw := hw.symm
            subst hw
            rw [hsum]
            go_wp2_with fail
            refine (set_ref _ _ _ A _ _ r rfl hr5 hx0 hx1 _ NA.out).mono ?_
            rintro e u ⟨vS, rfl, hO, hb⟩
            replace HB := hide (bel_next HB.out hb)
            replace NA := hide (NA.out.below hb)
            replace NX := hide (NX.out.below hb)
            clear hb
            obtain ⟨pS, cS, hv, hns, _⟩ := hO.open
            subst hv
            have NS := hide hns
            clear hns hO
            go_wp2_with fail
            refine (same_any _ _ _ _ _ _ _ _ _ NX.out NS.out).mono ?_
            rintro e u ⟨rfl, hb⟩
            replace HB := hide (bel_next HB.out hb)
            replace NA := hide (NA.out.below hb)
            replace NX := hide (NX.out.below hb)
            replace NS := hide (NS.out.below hb)
            clear hb
            rw [decide_eq_true (rfl : pln (setL A r a2) = pln (setL A r a2))]
            clear NX NS
            go_wp2_with fail
            refine (get_refZ _ _ _ A _ _ NA.out).mono ?_
            rintro e u ⟨rfl, hw⟩
            replace hw := hw.symm
            subst hw
            rw [hget]
            go_wp2_with fail
            refine (awake3 _).mono ?_
            rintro e u ⟨rfl, hb⟩
            replace HB := hide (bel_next HB.out hb)
            replace NA := hide (NA.out.below hb)
            clear hb
            go_wp2
            go_ret
            exact ⟨rfl, HB.out⟩
          · have hck : chk A = 0 := by unfold chk; rw [hmay]; rfl
            go_enter Try.func3, Try.ntmps3
            go_wp2_with fail
            refine (HLT.out).mono ?_
            rintro e u ⟨rfl, hw⟩
            replace hw := hw.symm
            subst hw
            go_wp2_with fail
            refine (set_good _ _ _ A r _ _ NA.out hr5 hx).mono ?_
            rintro e u ⟨vX, rfl, hO, hb⟩
            replace HB := hide (bel_next HB.out hb)
            replace NA := hide (NA.out.below hb)
            clear hb
            obtain ⟨pX, cX, hv, hns, _⟩ := hO.open
            subst hv
            have NX := hide hns
            clear hns hO
            go_wp2_with fail
            refine (tick_full _ _ _ A r _ NA.out hr5 hz).mono ?_
            rintro e u ⟨pY, cY, rfl, hb⟩
            replace HB := hide (bel_next HB.out hb)
            replace NA := hide (NA.out.below hb)
            replace NX := hide (NX.out.below hb)
            clear hb
            go_wp2_with fail
            refine (check_any _ _ _ A _ NA.out).mono ?_
            rintro e u ⟨rfl, hw⟩
            replace hw := hw.symm
            subst hw
            rw [hck]
            go_wp2_with fail
            refine (may_ref _ _ _ A _ NA.out).mono ?_
            rintro e u ⟨rfl, hw⟩
            replace hw := hw.symm
            subst hw
            rw [hmay]
            go_wp2_with fail
            refine (Plain_any _ _ _ A _ NA.out).mono ?_
            rintro e u ⟨vP, rfl, hO, hb⟩
            replace HB := hide (bel_next HB.out hb)
            replace NA := hide (NA.out.below hb)
            replace NX := hide (NX.out.below hb)
            clear hb
            obtain ⟨pP, cP, hv, hns, _⟩ := hO.open
            subst hv
            have NP := hide hns
            clear hns hO
            go_wp2_with fail
            refine (plain_ref _ _ _ A _ NA.out).mono ?_
            rintro e u ⟨vQ, rfl, hO, hb⟩
            replace HB := hide (bel_next HB.out hb)
            replace NA := hide (NA.out.below hb)
            replace NX := hide (NX.out.below hb)
            replace NP := hide (NP.out.below hb)
            clear hb
            obtain ⟨pQ, cQ, hv, hns, _⟩ := hO.open
            subst hv
            have NQ := hide hns
            clear hns hO
            go_wp2_with fail
            refine (same_any _ _ _ _ _ _ _ _ _ NP.out NQ.out).mono ?_
            rintro e u ⟨rfl, hb⟩
            replace HB := hide (bel_next HB.out hb)
            replace NA := hide (NA.out.below hb)
            replace NX := hide (NX.out.below hb)
            replace NP := hide (NP.out.below hb)
            replace NQ := hide (NQ.out.below hb)
            clear hb
            rw [decide_eq_true (rfl : pln (vec A) = pln (vec A))]
            clear NP NQ
            go_wp2_with fail
            refine (Get_any _ _ _ A _ _ NA.out).mono ?_
            rintro e u ⟨rfl, hb⟩
            replace HB := hide (bel_next HB.out hb)
            replace NA := hide (NA.out.below hb)
            replace NX := hide (NX.out.below hb)
            clear hb
            rw [hget]
            go_wp2_with fail
            refine (get_refZ _ _ _ A _ _ NA.out).mono ?_
            rintro e u ⟨rfl, hw⟩
            replace hw := hw.symm
            subst hw
            rw [hget]
            go_wp2_with fail
            refine (Sum_any _ _ _ A _ NA.out).mono ?_
            rintro e u ⟨rfl, hb⟩
            replace HB := hide (bel_next HB.out hb)
            replace NA := hide (NA.out.below hb)
            replace NX := hide (NX.out.below hb)
            clear hb
            rw [hsum]
            go_wp2_with fail
            refine (sum_ref _ _ _ A _ NA.out).mono ?_
            rintro e u ⟨rfl, hw⟩
            replace hw := hw.symm
            subst hw
            rw [hsum]
            go_wp2_with fail
            refine (set_ref _ _ _ A _ _ r rfl hr5 hx0 hx1 _ NA.out).mono ?_
            rintro e u ⟨vS, rfl, hO, hb⟩
            replace HB := hide (bel_next HB.out hb)
            replace NA := hide (NA.out.below hb)
            replace NX := hide (NX.out.below hb)
            clear hb
            obtain ⟨pS, cS, hv, hns, _⟩ := hO.open
            subst hv
            have NS := hide hns
            clear hns hO
            go_wp2_with fail
            refine (same_any _ _ _ _ _ _ _ _ _ NX.out NS.out).mono ?_
            rintro e u ⟨rfl, hb⟩
            replace HB := hide (bel_next HB.out hb)
            replace NA := hide (NA.out.below hb)
            replace NX := hide (NX.out.below hb)
            replace NS := hide (NS.out.below hb)
            clear hb
            rw [decide_eq_true (rfl : pln (setL A r a2) = pln (setL A r a2))]
            clear NX NS
            go_wp2_with fail
            refine (get_refZ _ _ _ A _ _ NA.out).mono ?_
            rintro e u ⟨rfl, hw⟩
            replace hw := hw.symm
            subst hw
            rw [hget]
            go_wp2_with fail
            refine (awake3 _).mono ?_
            rintro e u ⟨rfl, hb⟩
            replace HB := hide (bel_next HB.out hb)
            replace NA := hide (NA.out.below hb)
            clear hb
            go_wp2
            go_ret
            exact ⟨rfl, HB.out⟩
        · have hz2 : ¬ z = 1048576 := by omega
          have hz3 : (z == 1048576) = false := by simpa using hz2
          rcases hmay : mayC A with _ | _
          · have hck : chk A = 1 := by unfold chk; rw [hmay]; rfl
            go_enter Try.func3, Try.ntmps3
            go_wp2_with fail
            refine (HLT.out).mono ?_
            rintro e u ⟨rfl, hw⟩
            replace hw := hw.symm
            subst hw
            go_wp2_with fail
            refine (set_good _ _ _ A r _ _ NA.out hr5 hx).mono ?_
            rintro e u ⟨vX, rfl, hO, hb⟩
            replace HB := hide (bel_next HB.out hb)
            replace NA := hide (NA.out.below hb)
            clear hb
            obtain ⟨pX, cX, hv, hns, _⟩ := hO.open
            subst hv
            have NX := hide hns
            clear hns hO
            go_wp2_with fail
            refine (tick_good _ _ _ A r _ NA.out hr5 hz).mono ?_
            rintro e u ⟨vY, rfl, hO, hb⟩
            replace HB := hide (bel_next HB.out hb)
            replace NA := hide (NA.out.below hb)
            replace NX := hide (NX.out.below hb)
            clear hb
            obtain ⟨pY, cY, hv, hns, _⟩ := hO.open
            subst hv
            have NY := hide hns
            clear hns hO
            go_wp2_with fail
            refine (check_any _ _ _ A _ NA.out).mono ?_
            rintro e u ⟨rfl, hw⟩
            replace hw := hw.symm
            subst hw
            rw [hck]
            go_wp2_with fail
            refine (may_ref _ _ _ A _ NA.out).mono ?_
            rintro e u ⟨rfl, hw⟩
            replace hw := hw.symm
            subst hw
            rw [hmay]
            go_wp2_with fail
            refine (Plain_any _ _ _ A _ NA.out).mono ?_
            rintro e u ⟨vP, rfl, hO, hb⟩
            replace HB := hide (bel_next HB.out hb)
            replace NA := hide (NA.out.below hb)
            replace NX := hide (NX.out.below hb)
            replace NY := hide (NY.out.below hb)
            clear hb
            obtain ⟨pP, cP, hv, hns, _⟩ := hO.open
            subst hv
            have NP := hide hns
            clear hns hO
            go_wp2_with fail
            refine (plain_ref _ _ _ A _ NA.out).mono ?_
            rintro e u ⟨vQ, rfl, hO, hb⟩
            replace HB := hide (bel_next HB.out hb)
            replace NA := hide (NA.out.below hb)
            replace NX := hide (NX.out.below hb)
            replace NY := hide (NY.out.below hb)
            replace NP := hide (NP.out.below hb)
            clear hb
            obtain ⟨pQ, cQ, hv, hns, _⟩ := hO.open
            subst hv
            have NQ := hide hns
            clear hns hO
            go_wp2_with fail
            refine (same_any _ _ _ _ _ _ _ _ _ NP.out NQ.out).mono ?_
            rintro e u ⟨rfl, hb⟩
            replace HB := hide (bel_next HB.out hb)
            replace NA := hide (NA.out.below hb)
            replace NX := hide (NX.out.below hb)
            replace NY := hide (NY.out.below hb)
            replace NP := hide (NP.out.below hb)
            replace NQ := hide (NQ.out.below hb)
            clear hb
            rw [decide_eq_true (rfl : pln (vec A) = pln (vec A))]
            clear NP NQ
            go_wp2_with fail
            refine (Get_any _ _ _ A _ _ NA.out).mono ?_
            rintro e u ⟨rfl, hb⟩
            replace HB := hide (bel_next HB.out hb)
            replace NA := hide (NA.out.below hb)
            replace NX := hide (NX.out.below hb)
            replace NY := hide (NY.out.below hb)
            clear hb
            rw [hget]
            go_wp2_with fail
            refine (get_refZ _ _ _ A _ _ NA.out).mono ?_
            rintro e u ⟨rfl, hw⟩
            replace hw := hw.symm
            subst hw
            rw [hget]
            go_wp2_with fail
            refine (Sum_any _ _ _ A _ NA.out).mono ?_
            rintro e u ⟨rfl, hb⟩
            replace HB := hide (bel_next HB.out hb)
            replace NA := hide (NA.out.below hb)
            replace NX := hide (NX.out.below hb)
            replace NY := hide (NY.out.below hb)
            clear hb
            rw [hsum]
            go_wp2_with fail
            refine (sum_ref _ _ _ A _ NA.out).mono ?_
            rintro e u ⟨rfl, hw⟩
            replace hw := hw.symm
            subst hw
            rw [hsum]
            go_wp2_with fail
            refine (set_ref _ _ _ A _ _ r rfl hr5 hx0 hx1 _ NA.out).mono ?_
            rintro e u ⟨vS, rfl, hO, hb⟩
            replace HB := hide (bel_next HB.out hb)
            replace NA := hide (NA.out.below hb)
            replace NX := hide (NX.out.below hb)
            replace NY := hide (NY.out.below hb)
            clear hb
            obtain ⟨pS, cS, hv, hns, _⟩ := hO.open
            subst hv
            have NS := hide hns
            clear hns hO
            go_wp2_with fail
            refine (same_any _ _ _ _ _ _ _ _ _ NX.out NS.out).mono ?_
            rintro e u ⟨rfl, hb⟩
            replace HB := hide (bel_next HB.out hb)
            replace NA := hide (NA.out.below hb)
            replace NX := hide (NX.out.below hb)
            replace NY := hide (NY.out.below hb)
            replace NS := hide (NS.out.below hb)
            clear hb
            rw [decide_eq_true (rfl : pln (setL A r a2) = pln (setL A r a2))]
            clear NX NS
            go_wp2_with fail
            refine (get_refZ _ _ _ A _ _ NA.out).mono ?_
            rintro e u ⟨rfl, hw⟩
            replace hw := hw.symm
            subst hw
            rw [hget]
            go_wp2_with fail
            refine (set_ref _ _ _ A _ (z + 1) r rfl hr5 (by omega) (by omega) _ NA.out).mono ?_
            rintro e u ⟨vT, rfl, hO, hb⟩
            replace HB := hide (bel_next HB.out hb)
            replace NA := hide (NA.out.below hb)
            replace NY := hide (NY.out.below hb)
            clear hb
            obtain ⟨pT, cT, hv, hns, _⟩ := hO.open
            subst hv
            have NT := hide hns
            clear hns hO
            rw [hzz] at NY
            go_wp2_with fail
            refine (same_any _ _ _ _ _ _ _ _ _ NY.out NT.out).mono ?_
            rintro e u ⟨rfl, hb⟩
            replace HB := hide (bel_next HB.out hb)
            replace NA := hide (NA.out.below hb)
            replace NY := hide (NY.out.below hb)
            replace NT := hide (NT.out.below hb)
            clear hb
            rw [decide_eq_true (rfl : pln (setL A r (z + 1)) = pln (setL A r (z + 1)))]
            go_wp2_with fail
            refine (awake3 _).mono ?_
            rintro e u ⟨rfl, hb⟩
            replace HB := hide (bel_next HB.out hb)
            replace NA := hide (NA.out.below hb)
            replace NY := hide (NY.out.below hb)
            replace NT := hide (NT.out.below hb)
            clear hb
            go_wp2
            go_ret
            exact ⟨rfl, HB.out⟩
          · have hck : chk A = 0 := by unfold chk; rw [hmay]; rfl
            go_enter Try.func3, Try.ntmps3
            go_wp2_with fail
            refine (HLT.out).mono ?_
            rintro e u ⟨rfl, hw⟩
            replace hw := hw.symm
            subst hw
            go_wp2_with fail
            refine (set_good _ _ _ A r _ _ NA.out hr5 hx).mono ?_
            rintro e u ⟨vX, rfl, hO, hb⟩
            replace HB := hide (bel_next HB.out hb)
            replace NA := hide (NA.out.below hb)
            clear hb
            obtain ⟨pX, cX, hv, hns, _⟩ := hO.open
            subst hv
            have NX := hide hns
            clear hns hO
            go_wp2_with fail
            refine (tick_good _ _ _ A r _ NA.out hr5 hz).mono ?_
            rintro e u ⟨vY, rfl, hO, hb⟩
            replace HB := hide (bel_next HB.out hb)
            replace NA := hide (NA.out.below hb)
            replace NX := hide (NX.out.below hb)
            clear hb
            obtain ⟨pY, cY, hv, hns, _⟩ := hO.open
            subst hv
            have NY := hide hns
            clear hns hO
            go_wp2_with fail
            refine (check_any _ _ _ A _ NA.out).mono ?_
            rintro e u ⟨rfl, hw⟩
            replace hw := hw.symm
            subst hw
            rw [hck]
            go_wp2_with fail
            refine (may_ref _ _ _ A _ NA.out).mono ?_
            rintro e u ⟨rfl, hw⟩
            replace hw := hw.symm
            subst hw
            rw [hmay]
            go_wp2_with fail
            refine (Plain_any _ _ _ A _ NA.out).mono ?_
            rintro e u ⟨vP, rfl, hO, hb⟩
            replace HB := hide (bel_next HB.out hb)
            replace NA := hide (NA.out.below hb)
            replace NX := hide (NX.out.below hb)
            replace NY := hide (NY.out.below hb)
            clear hb
            obtain ⟨pP, cP, hv, hns, _⟩ := hO.open
            subst hv
            have NP := hide hns
            clear hns hO
            go_wp2_with fail
            refine (plain_ref _ _ _ A _ NA.out).mono ?_
            rintro e u ⟨vQ, rfl, hO, hb⟩
            replace HB := hide (bel_next HB.out hb)
            replace NA := hide (NA.out.below hb)
            replace NX := hide (NX.out.below hb)
            replace NY := hide (NY.out.below hb)
            replace NP := hide (NP.out.below hb)
            clear hb
            obtain ⟨pQ, cQ, hv, hns, _⟩ := hO.open
            subst hv
            have NQ := hide hns
            clear hns hO
            go_wp2_with fail
            refine (same_any _ _ _ _ _ _ _ _ _ NP.out NQ.out).mono ?_
            rintro e u ⟨rfl, hb⟩
            replace HB := hide (bel_next HB.out hb)
            replace NA := hide (NA.out.below hb)
            replace NX := hide (NX.out.below hb)
            replace NY := hide (NY.out.below hb)
            replace NP := hide (NP.out.below hb)
            replace NQ := hide (NQ.out.below hb)
            clear hb
            rw [decide_eq_true (rfl : pln (vec A) = pln (vec A))]
            clear NP NQ
            go_wp2_with fail
            refine (Get_any _ _ _ A _ _ NA.out).mono ?_
            rintro e u ⟨rfl, hb⟩
            replace HB := hide (bel_next HB.out hb)
            replace NA := hide (NA.out.below hb)
            replace NX := hide (NX.out.below hb)
            replace NY := hide (NY.out.below hb)
            clear hb
            rw [hget]
            go_wp2_with fail
            refine (get_refZ _ _ _ A _ _ NA.out).mono ?_
            rintro e u ⟨rfl, hw⟩
            replace hw := hw.symm
            subst hw
            rw [hget]
            go_wp2_with fail
            refine (Sum_any _ _ _ A _ NA.out).mono ?_
            rintro e u ⟨rfl, hb⟩
            replace HB := hide (bel_next HB.out hb)
            replace NA := hide (NA.out.below hb)
            replace NX := hide (NX.out.below hb)
            replace NY := hide (NY.out.below hb)
            clear hb
            rw [hsum]
            go_wp2_with fail
            refine (sum_ref _ _ _ A _ NA.out).mono ?_
            rintro e u ⟨rfl, hw⟩
            replace hw := hw.symm
            subst hw
            rw [hsum]
            go_wp2_with fail
            refine (set_ref _ _ _ A _ _ r rfl hr5 hx0 hx1 _ NA.out).mono ?_
            rintro e u ⟨vS, rfl, hO, hb⟩
            replace HB := hide (bel_next HB.out hb)
            replace NA := hide (NA.out.below hb)
            replace NX := hide (NX.out.below hb)
            replace NY := hide (NY.out.below hb)
            clear hb
            obtain ⟨pS, cS, hv, hns, _⟩ := hO.open
            subst hv
            have NS := hide hns
            clear hns hO
            go_wp2_with fail
            refine (same_any _ _ _ _ _ _ _ _ _ NX.out NS.out).mono ?_
            rintro e u ⟨rfl, hb⟩
            replace HB := hide (bel_next HB.out hb)
            replace NA := hide (NA.out.below hb)
            replace NX := hide (NX.out.below hb)
            replace NY := hide (NY.out.below hb)
            replace NS := hide (NS.out.below hb)
            clear hb
            rw [decide_eq_true (rfl : pln (setL A r a2) = pln (setL A r a2))]
            clear NX NS
            go_wp2_with fail
            refine (get_refZ _ _ _ A _ _ NA.out).mono ?_
            rintro e u ⟨rfl, hw⟩
            replace hw := hw.symm
            subst hw
            rw [hget]
            go_wp2_with fail
            refine (set_ref _ _ _ A _ (z + 1) r rfl hr5 (by omega) (by omega) _ NA.out).mono ?_
            rintro e u ⟨vT, rfl, hO, hb⟩
            replace HB := hide (bel_next HB.out hb)
            replace NA := hide (NA.out.below hb)
            replace NY := hide (NY.out.below hb)
            clear hb
            obtain ⟨pT, cT, hv, hns, _⟩ := hO.open
            subst hv
            have NT := hide hns
            clear hns hO
            rw [hzz] at NY
            go_wp2_with fail
            refine (same_any _ _ _ _ _ _ _ _ _ NY.out NT.out).mono ?_
            rintro e u ⟨rfl, hb⟩
            replace HB := hide (bel_next HB.out hb)
            replace NA := hide (NA.out.below hb)
            replace NY := hide (NY.out.below hb)
            replace NT := hide (NT.out.below hb)
            clear hb
            rw [decide_eq_true (rfl : pln (setL A r (z + 1)) = pln (setL A r (z + 1)))]
            go_wp2_with fail
            refine (awake3 _).mono ?_
            rintro e u ⟨rfl, hb⟩
            replace HB := hide (bel_next HB.out hb)
            replace NA := hide (NA.out.below hb)
            replace NY := hide (NY.out.below hb)
            replace NT := hide (NT.out.below hb)
            clear hb
            go_wp2
            go_ret
            exact ⟨rfl, HB.out⟩
    · obtain ⟨z, hget⟩ : ∃ z, getZ A a1 = z := ⟨_, rfl⟩
      by_cases hlow : a1 < 1
      · skip
        rcases hmay : mayC A with _ | _
        · have hck : chk A = 1 := by unfold chk; rw [hmay]; rfl
          go_enter Try.func3, Try.ntmps3
          go_wp2_with fail
          refine (HLT.out).mono ?_
          rintro e u ⟨rfl, hw⟩
          replace hw := hw.symm
          subst hw
          go_wp2_with fail
          refine (set_bad _ _ _ A _ _ _ NA.out (fun t => hrep t.1)).mono ?_
          rintro e u ⟨pX, cX, rfl, hb⟩
          replace HB := hide (bel_next HB.out hb)
          replace NA := hide (NA.out.below hb)
          clear hb
          go_wp2_with fail
          refine (tick_bad _ _ _ A _ _ NA.out hrep).mono ?_
          rintro e u ⟨pY, cY, rfl, hb⟩
          replace HB := hide (bel_next HB.out hb)
          replace NA := hide (NA.out.below hb)
          clear hb
          go_wp2_with fail
          refine (check_any _ _ _ A _ NA.out).mono ?_
          rintro e u ⟨rfl, hw⟩
          replace hw := hw.symm
          subst hw
          rw [hck]
          go_wp2_with fail
          refine (may_ref _ _ _ A _ NA.out).mono ?_
          rintro e u ⟨rfl, hw⟩
          replace hw := hw.symm
          subst hw
          rw [hmay]
          go_wp2_with fail
          refine (Plain_any _ _ _ A _ NA.out).mono ?_
          rintro e u ⟨vP, rfl, hO, hb⟩
          replace HB := hide (bel_next HB.out hb)
          replace NA := hide (NA.out.below hb)
          clear hb
          obtain ⟨pP, cP, hv, hns, _⟩ := hO.open
          subst hv
          have NP := hide hns
          clear hns hO
          go_wp2_with fail
          refine (plain_ref _ _ _ A _ NA.out).mono ?_
          rintro e u ⟨vQ, rfl, hO, hb⟩
          replace HB := hide (bel_next HB.out hb)
          replace NA := hide (NA.out.below hb)
          replace NP := hide (NP.out.below hb)
          clear hb
          obtain ⟨pQ, cQ, hv, hns, _⟩ := hO.open
          subst hv
          have NQ := hide hns
          clear hns hO
          go_wp2_with fail
          refine (same_any _ _ _ _ _ _ _ _ _ NP.out NQ.out).mono ?_
          rintro e u ⟨rfl, hb⟩
          replace HB := hide (bel_next HB.out hb)
          replace NA := hide (NA.out.below hb)
          replace NP := hide (NP.out.below hb)
          replace NQ := hide (NQ.out.below hb)
          clear hb
          rw [decide_eq_true (rfl : pln (vec A) = pln (vec A))]
          clear NP NQ
          go_wp2_with fail
          refine (Get_any _ _ _ A _ _ NA.out).mono ?_
          rintro e u ⟨rfl, hb⟩
          replace HB := hide (bel_next HB.out hb)
          replace NA := hide (NA.out.below hb)
          clear hb
          rw [hget]
          go_wp2_with fail
          refine (get_refZ _ _ _ A _ _ NA.out).mono ?_
          rintro e u ⟨rfl, hw⟩
          replace hw := hw.symm
          subst hw
          rw [hget]
          go_wp2_with fail
          refine (Sum_any _ _ _ A _ NA.out).mono ?_
          rintro e u ⟨rfl, hb⟩
          replace HB := hide (bel_next HB.out hb)
          replace NA := hide (NA.out.below hb)
          clear hb
          rw [hsum]
          go_wp2_with fail
          refine (sum_ref _ _ _ A _ NA.out).mono ?_
          rintro e u ⟨rfl, hw⟩
          replace hw := hw.symm
          subst hw
          rw [hsum]
          go_wp2_with fail
          refine (awake3 _).mono ?_
          rintro e u ⟨rfl, hb⟩
          replace HB := hide (bel_next HB.out hb)
          replace NA := hide (NA.out.below hb)
          clear hb
          go_wp2
          go_ret
          exact ⟨rfl, HB.out⟩
        · have hck : chk A = 0 := by unfold chk; rw [hmay]; rfl
          go_enter Try.func3, Try.ntmps3
          go_wp2_with fail
          refine (HLT.out).mono ?_
          rintro e u ⟨rfl, hw⟩
          replace hw := hw.symm
          subst hw
          go_wp2_with fail
          refine (set_bad _ _ _ A _ _ _ NA.out (fun t => hrep t.1)).mono ?_
          rintro e u ⟨pX, cX, rfl, hb⟩
          replace HB := hide (bel_next HB.out hb)
          replace NA := hide (NA.out.below hb)
          clear hb
          go_wp2_with fail
          refine (tick_bad _ _ _ A _ _ NA.out hrep).mono ?_
          rintro e u ⟨pY, cY, rfl, hb⟩
          replace HB := hide (bel_next HB.out hb)
          replace NA := hide (NA.out.below hb)
          clear hb
          go_wp2_with fail
          refine (check_any _ _ _ A _ NA.out).mono ?_
          rintro e u ⟨rfl, hw⟩
          replace hw := hw.symm
          subst hw
          rw [hck]
          go_wp2_with fail
          refine (may_ref _ _ _ A _ NA.out).mono ?_
          rintro e u ⟨rfl, hw⟩
          replace hw := hw.symm
          subst hw
          rw [hmay]
          go_wp2_with fail
          refine (Plain_any _ _ _ A _ NA.out).mono ?_
          rintro e u ⟨vP, rfl, hO, hb⟩
          replace HB := hide (bel_next HB.out hb)
          replace NA := hide (NA.out.below hb)
          clear hb
          obtain ⟨pP, cP, hv, hns, _⟩ := hO.open
          subst hv
          have NP := hide hns
          clear hns hO
          go_wp2_with fail
          refine (plain_ref _ _ _ A _ NA.out).mono ?_
          rintro e u ⟨vQ, rfl, hO, hb⟩
          replace HB := hide (bel_next HB.out hb)
          replace NA := hide (NA.out.below hb)
          replace NP := hide (NP.out.below hb)
          clear hb
          obtain ⟨pQ, cQ, hv, hns, _⟩ := hO.open
          subst hv
          have NQ := hide hns
          clear hns hO
          go_wp2_with fail
          refine (same_any _ _ _ _ _ _ _ _ _ NP.out NQ.out).mono ?_
          rintro e u ⟨rfl, hb⟩
          replace HB := hide (bel_next HB.out hb)
          replace NA := hide (NA.out.below hb)
          replace NP := hide (NP.out.below hb)
          replace NQ := hide (NQ.out.below hb)
          clear hb
          rw [decide_eq_true (rfl : pln (vec A) = pln (vec A))]
          clear NP NQ
          go_wp2_with fail
          refine (Get_any _ _ _ A _ _ NA.out).mono ?_
          rintro e u ⟨rfl, hb⟩
          replace HB := hide (bel_next HB.out hb)
          replace NA := hide (NA.out.below hb)
          clear hb
          rw [hget]
          go_wp2_with fail
          refine (get_refZ _ _ _ A _ _ NA.out).mono ?_
          rintro e u ⟨rfl, hw⟩
          replace hw := hw.symm
          subst hw
          rw [hget]
          go_wp2_with fail
          refine (Sum_any _ _ _ A _ NA.out).mono ?_
          rintro e u ⟨rfl, hb⟩
          replace HB := hide (bel_next HB.out hb)
          replace NA := hide (NA.out.below hb)
          clear hb
          rw [hsum]
          go_wp2_with fail
          refine (sum_ref _ _ _ A _ NA.out).mono ?_
          rintro e u ⟨rfl, hw⟩
          replace hw := hw.symm
          subst hw
          rw [hsum]
          go_wp2_with fail
          refine (awake3 _).mono ?_
          rintro e u ⟨rfl, hb⟩
          replace HB := hide (bel_next HB.out hb)
          replace NA := hide (NA.out.below hb)
          clear hb
          go_wp2
          go_ret
          exact ⟨rfl, HB.out⟩
      · have hhi : a1 > 5 := by omega
        rcases hmay : mayC A with _ | _
        · have hck : chk A = 1 := by unfold chk; rw [hmay]; rfl
          go_enter Try.func3, Try.ntmps3
          go_wp2_with fail
          refine (HLT.out).mono ?_
          rintro e u ⟨rfl, hw⟩
          replace hw := hw.symm
          subst hw
          go_wp2_with fail
          refine (set_bad _ _ _ A _ _ _ NA.out (fun t => hrep t.1)).mono ?_
          rintro e u ⟨pX, cX, rfl, hb⟩
          replace HB := hide (bel_next HB.out hb)
          replace NA := hide (NA.out.below hb)
          clear hb
          go_wp2_with fail
          refine (tick_bad _ _ _ A _ _ NA.out hrep).mono ?_
          rintro e u ⟨pY, cY, rfl, hb⟩
          replace HB := hide (bel_next HB.out hb)
          replace NA := hide (NA.out.below hb)
          clear hb
          go_wp2_with fail
          refine (check_any _ _ _ A _ NA.out).mono ?_
          rintro e u ⟨rfl, hw⟩
          replace hw := hw.symm
          subst hw
          rw [hck]
          go_wp2_with fail
          refine (may_ref _ _ _ A _ NA.out).mono ?_
          rintro e u ⟨rfl, hw⟩
          replace hw := hw.symm
          subst hw
          rw [hmay]
          go_wp2_with fail
          refine (Plain_any _ _ _ A _ NA.out).mono ?_
          rintro e u ⟨vP, rfl, hO, hb⟩
          replace HB := hide (bel_next HB.out hb)
          replace NA := hide (NA.out.below hb)
          clear hb
          obtain ⟨pP, cP, hv, hns, _⟩ := hO.open
          subst hv
          have NP := hide hns
          clear hns hO
          go_wp2_with fail
          refine (plain_ref _ _ _ A _ NA.out).mono ?_
          rintro e u ⟨vQ, rfl, hO, hb⟩
          replace HB := hide (bel_next HB.out hb)
          replace NA := hide (NA.out.below hb)
          replace NP := hide (NP.out.below hb)
          clear hb
          obtain ⟨pQ, cQ, hv, hns, _⟩ := hO.open
          subst hv
          have NQ := hide hns
          clear hns hO
          go_wp2_with fail
          refine (same_any _ _ _ _ _ _ _ _ _ NP.out NQ.out).mono ?_
          rintro e u ⟨rfl, hb⟩
          replace HB := hide (bel_next HB.out hb)
          replace NA := hide (NA.out.below hb)
          replace NP := hide (NP.out.below hb)
          replace NQ := hide (NQ.out.below hb)
          clear hb
          rw [decide_eq_true (rfl : pln (vec A) = pln (vec A))]
          clear NP NQ
          go_wp2_with fail
          refine (Get_any _ _ _ A _ _ NA.out).mono ?_
          rintro e u ⟨rfl, hb⟩
          replace HB := hide (bel_next HB.out hb)
          replace NA := hide (NA.out.below hb)
          clear hb
          rw [hget]
          go_wp2_with fail
          refine (get_refZ _ _ _ A _ _ NA.out).mono ?_
          rintro e u ⟨rfl, hw⟩
          replace hw := hw.symm
          subst hw
          rw [hget]
          go_wp2_with fail
          refine (Sum_any _ _ _ A _ NA.out).mono ?_
          rintro e u ⟨rfl, hb⟩
          replace HB := hide (bel_next HB.out hb)
          replace NA := hide (NA.out.below hb)
          clear hb
          rw [hsum]
          go_wp2_with fail
          refine (sum_ref _ _ _ A _ NA.out).mono ?_
          rintro e u ⟨rfl, hw⟩
          replace hw := hw.symm
          subst hw
          rw [hsum]
          go_wp2_with fail
          refine (awake3 _).mono ?_
          rintro e u ⟨rfl, hb⟩
          replace HB := hide (bel_next HB.out hb)
          replace NA := hide (NA.out.below hb)
          clear hb
          go_wp2
          go_ret
          exact ⟨rfl, HB.out⟩
        · have hck : chk A = 0 := by unfold chk; rw [hmay]; rfl
          go_enter Try.func3, Try.ntmps3
          go_wp2_with fail
          refine (HLT.out).mono ?_
          rintro e u ⟨rfl, hw⟩
          replace hw := hw.symm
          subst hw
          go_wp2_with fail
          refine (set_bad _ _ _ A _ _ _ NA.out (fun t => hrep t.1)).mono ?_
          rintro e u ⟨pX, cX, rfl, hb⟩
          replace HB := hide (bel_next HB.out hb)
          replace NA := hide (NA.out.below hb)
          clear hb
          go_wp2_with fail
          refine (tick_bad _ _ _ A _ _ NA.out hrep).mono ?_
          rintro e u ⟨pY, cY, rfl, hb⟩
          replace HB := hide (bel_next HB.out hb)
          replace NA := hide (NA.out.below hb)
          clear hb
          go_wp2_with fail
          refine (check_any _ _ _ A _ NA.out).mono ?_
          rintro e u ⟨rfl, hw⟩
          replace hw := hw.symm
          subst hw
          rw [hck]
          go_wp2_with fail
          refine (may_ref _ _ _ A _ NA.out).mono ?_
          rintro e u ⟨rfl, hw⟩
          replace hw := hw.symm
          subst hw
          rw [hmay]
          go_wp2_with fail
          refine (Plain_any _ _ _ A _ NA.out).mono ?_
          rintro e u ⟨vP, rfl, hO, hb⟩
          replace HB := hide (bel_next HB.out hb)
          replace NA := hide (NA.out.below hb)
          clear hb
          obtain ⟨pP, cP, hv, hns, _⟩ := hO.open
          subst hv
          have NP := hide hns
          clear hns hO
          go_wp2_with fail
          refine (plain_ref _ _ _ A _ NA.out).mono ?_
          rintro e u ⟨vQ, rfl, hO, hb⟩
          replace HB := hide (bel_next HB.out hb)
          replace NA := hide (NA.out.below hb)
          replace NP := hide (NP.out.below hb)
          clear hb
          obtain ⟨pQ, cQ, hv, hns, _⟩ := hO.open
          subst hv
          have NQ := hide hns
          clear hns hO
          go_wp2_with fail
          refine (same_any _ _ _ _ _ _ _ _ _ NP.out NQ.out).mono ?_
          rintro e u ⟨rfl, hb⟩
          replace HB := hide (bel_next HB.out hb)
          replace NA := hide (NA.out.below hb)
          replace NP := hide (NP.out.below hb)
          replace NQ := hide (NQ.out.below hb)
          clear hb
          rw [decide_eq_true (rfl : pln (vec A) = pln (vec A))]
          clear NP NQ
          go_wp2_with fail
          refine (Get_any _ _ _ A _ _ NA.out).mono ?_
          rintro e u ⟨rfl, hb⟩
          replace HB := hide (bel_next HB.out hb)
          replace NA := hide (NA.out.below hb)
          clear hb
          rw [hget]
          go_wp2_with fail
          refine (get_refZ _ _ _ A _ _ NA.out).mono ?_
          rintro e u ⟨rfl, hw⟩
          replace hw := hw.symm
          subst hw
          rw [hget]
          go_wp2_with fail
          refine (Sum_any _ _ _ A _ NA.out).mono ?_
          rintro e u ⟨rfl, hb⟩
          replace HB := hide (bel_next HB.out hb)
          replace NA := hide (NA.out.below hb)
          clear hb
          rw [hsum]
          go_wp2_with fail
          refine (sum_ref _ _ _ A _ NA.out).mono ?_
          rintro e u ⟨rfl, hw⟩
          replace hw := hw.symm
          subst hw
          rw [hsum]
          go_wp2_with fail
          refine (awake3 _).mono ?_
          rintro e u ⟨rfl, hb⟩
          replace HB := hide (bel_next HB.out hb)
          replace NA := hide (NA.out.below hb)
          clear hb
          go_wp2
          go_ret
          exact ⟨rfl, HB.out⟩
  · have HLT := hide (light3_as a none na ca 0 0 w hna (by decide) false (decide_eq_false hl))
    clear hl hna
    go_enter Try.func3, Try.ntmps3
    go_wp2_with fail
    refine (HLT.out).mono ?_
    rintro e u ⟨rfl, hw⟩
    replace hw := hw.symm
    subst hw
    go_wp2_with fail
    refine (awake3 _).mono ?_
    rintro e u ⟨rfl, hb⟩
    replace HB := hide (bel_next HB.out hb)
    replace NA := hide (NA.out.below hb)
    clear hb
    go_wp2
    go_ret
    exact ⟨rfl, HB.out⟩

/-! ### The row's step -/
set_option maxRecDepth 100000 in
theorem lifted (os : Os) (started : os.Started) (H : Type) (enc : TypeId × Value → H) :
    ReturnsInHanded {} Try.checked os 3 .any (Rows.clockTurnsSpec.pre6 enc Try.prog Try.f3 Rows.clockTurnsRow.domain false) (Rows.clockTurnsSpec.post enc Try.prog Try.f3 false true false false) := by
  refine returnsInHanded_of_change_sized (C := Try.checked) own started (by kernel_rfl) Try.func3
    (ChangeSpec.witness6 (enc := enc) (C := Try.checked) false ⟨#[], #[.slice none 0 0, .int .i64 0, .int .i64 0], []⟩ 8 (by kernel_rfl) (by kernel_rfl) (by kernel_rfl) (by kernel_rfl)) ?_
  intro W base args ds gs before hval0 hW hcnd hz0 _
  have hval : ∀ (j : Nat) t v, Try.f3.params[j]? = some t → args[j]? = some v → Value.okWide Try.prog W .any base t v := hval0
  have hz : (DataW.weightsEach Try.prog (Try.f3.params.toList ++ Rows.clockTurnsSpec.plain.varTypes Try.prog) (ds ++ gs)).all (· ≤ reachBytes) = true := hz0
  have hW' := hW
  obtain ⟨p, q, hA0, hV, rfl, hfz, hnd⟩ := hW
  have hA : DataW.TrodAll enc Try.prog W 0 (fun _ => true) true Try.f3.params.toList args.toList ds p := hA0
  rw [Try.params3] at hA hval hz
  obtain ⟨v0, vs0, d0, ds0, p0, q0, hargs, rfl, rfl, h0, r0⟩ := trodAll_cons hA
  obtain ⟨v1, vs1, d1, ds1, p1, q1, rfl, rfl, rfl, h1, r1⟩ := trodAll_cons r0
  obtain ⟨v2, vs2, d2, ds2, p2, q2, rfl, rfl, rfl, h2, r2⟩ := trodAll_cons r1
  obtain ⟨rfl, rfl, rfl⟩ := trodAll_nil r2
  obtain rfl : args = #[v0, v1, v2] := by cases args; simp_all
  obtain ⟨rfl, rfl⟩ := trodVars_none hV
  have k0 := h0
  have lt0 : ∀ x ∈ p0, x.block < W.heap.size := by obtain ⟨m, hm⟩ := k0; exact DataW.trod_lt m _ _ _ hm
  have w0 : InN W v0 := in_nums (hval 0 23 v0 rfl rfl) h0 (fun n hn => by have := List.all_eq_true.1 hz n (DataW.weights_mem_each (j := 0) (t := 23) rfl rfl n hn); simpa using this)
  obtain ⟨a1, rfl, rfl, rfl, w1⟩ := open_int Try.underlying3 (hval 1 3 v1 rfl rfl) h1
  obtain ⟨a2, rfl, rfl, rfl, w2⟩ := open_int Try.underlying3 (hval 2 3 v2 rfl rfl) h2
  clear hA0 hval0 hz0
  refine (walk v0 a1 a2 W w0 w1 w2).mono fun e W' ⟨he, bel⟩ => ?_
  subst he
  exact ⟨_, rfl, _, _, _, [], _, [], hW', trodAll_mk1 (shut_bool Try.underlying4 _), (trodAll_cons_mk (Below.trod laidOut (by kernel_rfl) (of_decide_eq_true (by kernel_rfl)) k0 bel lt0) (trodAll_cons_mk (shut_int Try.underlying3 w1) (trodAll_cons_mk (shut_int Try.underlying3 w2) trodAll_mk0))), rfl, bel.frame _, fun h => by cases h⟩

theorem over : Rows.clockTurnsRow.holds Try.pinned (OpenSpec.ofChange Rows.clockTurnsSpec) :=
  OpenClaim.holds_of_wide 3 Try.f3 rfl rfl rfl rfl rfl rfl rfl ⟨rfl, rfl, rfl, rfl, rfl⟩ rfl rfl rfl rfl rfl (by kernel_rfl) Try.func3 (by kernel_rfl)
    (of_decide_eq_true (by kernel_rfl)) (by unfold Func.isWrapper; first | (rw [if_pos (by decide +kernel)]; kernel_rfl) | (rw [if_neg (by decide +kernel)]; exact ⟨rfl, rfl⟩))
    (fun os started H enc _ => lifted os started H enc)
end Go.Proofs.Ytbeknlpoialgiaa.clockTurns
namespace Go.Proofs.Ytbeknlpoialgiaa
theorem clockTurns_holds : Rows.ClockTurnsSaid := clockTurns.over
end Go.Proofs.Ytbeknlpoialgiaa
