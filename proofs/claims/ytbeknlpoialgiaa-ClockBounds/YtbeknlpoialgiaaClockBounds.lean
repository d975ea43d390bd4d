/- ClockBounds is true for every three clocks: two are within their join, which is within each that both are within; the other way round for what is within both. Conditions: none but the form's own. -/
import Derived.Test.YtbeknlpoialgiaaRows
import Derived.WalkKit
import Derived.ProofKit
import Derived.OpenShut
import Derived.ShutString
import Derived.ChangeOld
import Derived.Below
import Derived.SizedLaws
import Derived.Test.YtbeknlpoialgiaaCLaw
namespace Go.Proofs.Ytbeknlpoialgiaa.clockBounds
open Go.ChangeShapes Go.WideShapes Go.ChangeAt Go.RowKit
set_option linter.unusedVariables false

theorem own : ownKnob Try.prog.godebug = none := by kernel_rfl
theorem laidOut : laidOutB Try.prog = true := by kernel_rfl

theorem wth_j1 (a b : List Int) : wth a (pln (joinL a b)) := by unfold wth; simp only [at5_join a b 0 (by omega), at5_join a b 1 (by omega), at5_join a b 2 (by omega), at5_join a b 3 (by omega), at5_join a b 4 (by omega)]; omega
theorem wth_j2 (a b : List Int) : wth b (pln (joinL a b)) := by unfold wth; simp only [at5_join a b 0 (by omega), at5_join a b 1 (by omega), at5_join a b 2 (by omega), at5_join a b 3 (by omega), at5_join a b 4 (by omega)]; omega
theorem wth_m1 (a b : List Int) : wth (pln (meetL a b)) a := by unfold wth; simp only [at5_meet a b 0 (by omega), at5_meet a b 1 (by omega), at5_meet a b 2 (by omega), at5_meet a b 3 (by omega), at5_meet a b 4 (by omega)]; omega
theorem wth_m2 (a b : List Int) : wth (pln (meetL a b)) b := by unfold wth; simp only [at5_meet a b 0 (by omega), at5_meet a b 1 (by omega), at5_meet a b 2 (by omega), at5_meet a b 3 (by omega), at5_meet a b 4 (by omega)]; omega
theorem wth_j (a b c : List Int) (h : wth a c) : wth (pln (joinL a b)) c ↔ wth b c := by unfold wth at *; simp only [at5_join a b 0 (by omega), at5_join a b 1 (by omega), at5_join a b 2 (by omega), at5_join a b 3 (by omega), at5_join a b 4 (by omega)]; omega
theorem wth_m (a b c : List Int) (h : wth c a) : wth c (pln (meetL a b)) ↔ wth c b := by unfold wth at *; simp only [at5_meet a b 0 (by omega), at5_meet a b 1 (by omega), at5_meet a b 2 (by omega), at5_meet a b 3 (by omega), at5_meet a b 4 (by omega)]; omega

set_option maxHeartbeats 16000000 in
set_option maxRecDepth 100000 in
theorem walk (v0 : Value) (v1 : Value) (v2 : Value) (w : World) (w0 : InN w v0) (w1 : InN w v1) (w2 : InN w v2) :
    Calls Try.prog 6 #[v0, v1, v2] w fun e w' => e = .returned (.bool true) ∧ Below w.heap.size w w' := by
  obtain ⟨a, na, ca, A, rfl, hA, _⟩ := w0
  obtain ⟨b, nb', cb, B, rfl, hB, _⟩ := w1
  obtain ⟨c, nc, cc, C, rfl, hC, _⟩ := w2
  have hna := hA.2.1
  have hnb := hB.2.1
  have hnc := hC.2.1
  have NA := hide hA
  have NB := hide hB
  have NC := hide hC
  have HB := hide (Below.refl w.heap.size w)
  clear hA hB hC
  by_cases hl : na ≤ 50 ∧ nb' ≤ 50
  · have HLT := hide (light3_as a b na ca nb' cb w hna hnb true (decide_eq_true hl))
    by_cases h50 : (nc : Int) > 50
    · clear hl hna hnb hnc
      go_enter Try.func6, Try.ntmps6
      go_wp2_with fail
      refine (HLT.out).mono ?_
      rintro e u ⟨rfl, hw⟩
      subst hw
      go_wp2_with fail
      refine (awake3 _).mono ?_
      rintro e u ⟨rfl, hb⟩
      replace HB := hide (bel_next HB.out hb)
      replace NA := hide (NA.out.below hb)
      replace NB := hide (NB.out.below hb)
      replace NC := hide (NC.out.below hb)
      clear hb
      go_wp2
      go_ret
      exact ⟨rfl, HB.out⟩
    · have h50' : ¬ (nc > 50) := by omega
      clear hl hna hnb hnc
      by_cases h1 : wth A C
      · by_cases h2 : wth C A
        · go_enter Try.func6, Try.ntmps6
          go_wp2_with fail
          refine (HLT.out).mono ?_
          rintro e u ⟨rfl, hw⟩
          subst hw
          go_wp2_with fail
          refine (join2_any _ _ rfl _ _ _ _ _ _ A B NA.out NB.out).mono ?_
          rintro e u ⟨vJ, rfl, hO, hb⟩
          replace HB := hide (bel_next HB.out hb)
          replace NA := hide (NA.out.below hb)
          replace NB := hide (NB.out.below hb)
          replace NC := hide (NC.out.below hb)
          clear hb
          obtain ⟨pJ, cJ, hv, hns, _⟩ := hO.open
          subst hv
          have NJ := hide hns
          clear hns hO
          go_wp2_with fail
          refine (Meet_any _ _ _ _ _ _ A B _ NA.out NB.out).mono ?_
          rintro e u ⟨vM, rfl, hO, hb⟩
          replace HB := hide (bel_next HB.out hb)
          replace NA := hide (NA.out.below hb)
          replace NB := hide (NB.out.below hb)
          replace NC := hide (NC.out.below hb)
          replace NJ := hide (NJ.out.below hb)
          clear hb
          obtain ⟨pM, cM, hv, hns, _⟩ := hO.open
          subst hv
          have NM := hide hns
          clear hns hO
          go_wp2_with fail
          refine (Within_any _ _ _ _ _ _ A (pln (joinL A B)) _ NA.out NJ.out true (by symm; exact decide_eq_true (wth_j1 A B))).mono ?_
          rintro e u ⟨rfl, hb⟩
          replace HB := hide (bel_next HB.out hb)
          replace NA := hide (NA.out.below hb)
          replace NB := hide (NB.out.below hb)
          replace NC := hide (NC.out.below hb)
          replace NJ := hide (NJ.out.below hb)
          replace NM := hide (NM.out.below hb)
          clear hb
          go_wp2_with fail
          refine (Within_any _ _ _ _ _ _ B (pln (joinL A B)) _ NB.out NJ.out true (by symm; exact decide_eq_true (wth_j2 A B))).mono ?_
          rintro e u ⟨rfl, hb⟩
          replace HB := hide (bel_next HB.out hb)
          replace NA := hide (NA.out.below hb)
          replace NB := hide (NB.out.below hb)
          replace NC := hide (NC.out.below hb)
          replace NJ := hide (NJ.out.below hb)
          replace NM := hide (NM.out.below hb)
          clear hb
          go_wp2_with fail
          refine (Within_any _ _ _ _ _ _ (pln (meetL A B)) A _ NM.out NA.out true (by symm; exact decide_eq_true (wth_m1 A B))).mono ?_
          rintro e u ⟨rfl, hb⟩
          replace HB := hide (bel_next HB.out hb)
          replace NA := hide (NA.out.below hb)
          replace NB := hide (NB.out.below hb)
          replace NC := hide (NC.out.below hb)
          replace NJ := hide (NJ.out.below hb)
          replace NM := hide (NM.out.below hb)
          clear hb
          go_wp2_with fail
          refine (Within_any _ _ _ _ _ _ (pln (meetL A B)) B _ NM.out NB.out true (by symm; exact decide_eq_true (wth_m2 A B))).mono ?_
          rintro e u ⟨rfl, hb⟩
          replace HB := hide (bel_next HB.out hb)
          replace NA := hide (NA.out.below hb)
          replace NB := hide (NB.out.below hb)
          replace NC := hide (NC.out.below hb)
          replace NJ := hide (NJ.out.below hb)
          replace NM := hide (NM.out.below hb)
          clear hb
          go_wp2_with fail
          refine (Within_any _ _ _ _ _ _ A C _ NA.out NC.out true (by symm; exact decide_eq_true h1)).mono ?_
          rintro e u ⟨rfl, hb⟩
          replace HB := hide (bel_next HB.out hb)
          replace NA := hide (NA.out.below hb)
          replace NB := hide (NB.out.below hb)
          replace NC := hide (NC.out.below hb)
          replace NJ := hide (NJ.out.below hb)
          replace NM := hide (NM.out.below hb)
          clear hb
          go_wp2_with fail
          refine (Within_any _ _ _ _ _ _ B C _ NB.out NC.out (decide (wth B C)) rfl).mono ?_
          rintro e u ⟨rfl, hb⟩
          replace HB := hide (bel_next HB.out hb)
          replace NA := hide (NA.out.below hb)
          replace NB := hide (NB.out.below hb)
          replace NC := hide (NC.out.below hb)
          replace NJ := hide (NJ.out.below hb)
          replace NM := hide (NM.out.below hb)
          clear hb
          go_wp2_with fail
          refine (Within_any _ _ _ _ _ _ (pln (joinL A B)) C _ NJ.out NC.out (decide (wth B C)) (by congr 1; exact propext (wth_j A B C h1).symm)).mono ?_
          rintro e u ⟨rfl, hb⟩
          replace HB := hide (bel_next HB.out hb)
          replace NA := hide (NA.out.below hb)
          replace NB := hide (NB.out.below hb)
          replace NC := hide (NC.out.below hb)
          replace NJ := hide (NJ.out.below hb)
          replace NM := hide (NM.out.below hb)
          clear hb
          go_wp2_with fail
          refine (Within_any _ _ _ _ _ _ C A _ NC.out NA.out true (by symm; exact decide_eq_true h2)).mono ?_
          rintro e u ⟨rfl, hb⟩
          replace HB := hide (bel_next HB.out hb)
          replace NA := hide (NA.out.below hb)
          replace NB := hide (NB.out.below hb)
          replace NC := hide (NC.out.below hb)
          replace NJ := hide (NJ.out.below hb)
          replace NM := hide (NM.out.below hb)
          clear hb
          go_wp2_with fail
          refine (Within_any _ _ _ _ _ _ C B _ NC.out NB.out (decide (wth C B)) rfl).mono ?_
          rintro e u ⟨rfl, hb⟩
          replace HB := hide (bel_next HB.out hb)
          replace NA := hide (NA.out.below hb)
          replace NB := hide (NB.out.below hb)
          replace NC := hide (NC.out.below hb)
          replace NJ := hide (NJ.out.below hb)
          replace NM := hide (NM.out.below hb)
          clear hb
          go_wp2_with fail
          refine (Within_any _ _ _ _ _ _ C (pln (meetL A B)) _ NC.out NM.out (decide (wth C B)) (by congr 1; exact propext (wth_m A B C h2).symm)).mono ?_
          rintro e u ⟨rfl, hb⟩
          replace HB := hide (bel_next HB.out hb)
          replace NA := hide (NA.out.below hb)
          replace NB := hide (NB.out.below hb)
          replace NC := hide (NC.out.below hb)
          replace NJ := hide (NJ.out.below hb)
          replace NM := hide (NM.out.below hb)
          clear hb
          go_wp2_with fail
          refine (join3_any _ _ rfl _ _ _ _ _ _ _ _ _ A B C NA.out NB.out NC.out).mono ?_
          rintro e u ⟨vK, rfl, hO, hb⟩
          replace HB := hide (bel_next HB.out hb)
          replace NA := hide (NA.out.below hb)
          replace NB := hide (NB.out.below hb)
          replace NC := hide (NC.out.below hb)
          replace NJ := hide (NJ.out.below hb)
          replace NM := hide (NM.out.below hb)
          clear hb
          obtain ⟨pK, cK, hv, hns, _⟩ := hO.open
          subst hv
          have NK := hide hns
          clear hns hO
          go_wp2_with fail
          refine (join2_any _ _ rfl _ _ _ _ _ _ C (pln (joinL A B)) NC.out NJ.out).mono ?_
          rintro e u ⟨vL, rfl, hO, hb⟩
          replace HB := hide (bel_next HB.out hb)
          replace NA := hide (NA.out.below hb)
          replace NB := hide (NB.out.below hb)
          replace NC := hide (NC.out.below hb)
          replace NJ := hide (NJ.out.below hb)
          replace NM := hide (NM.out.below hb)
          replace NK := hide (NK.out.below hb)
          clear hb
          obtain ⟨pL, cL, hv, hns, _⟩ := hO.open
          subst hv
          have NL := hide hns
          clear hns hO
          go_wp2_with fail
          refine (same_any _ _ _ _ _ _ _ _ _ NK.out NL.out).mono ?_
          rintro e u ⟨rfl, hb⟩
          replace HB := hide (bel_next HB.out hb)
          replace NA := hide (NA.out.below hb)
          replace NB := hide (NB.out.below hb)
          replace NC := hide (NC.out.below hb)
          replace NJ := hide (NJ.out.below hb)
          replace NM := hide (NM.out.below hb)
          replace NK := hide (NK.out.below hb)
          replace NL := hide (NL.out.below hb)
          clear hb
          rw [decide_eq_true (rfl : pln (joinL C (pln (joinL A B))) = pln (joinL C (pln (joinL A B))))]
          go_wp2_with fail
          refine (awake3 _).mono ?_
          rintro e u ⟨rfl, hb⟩
          replace HB := hide (bel_next HB.out hb)
          replace NA := hide (NA.out.below hb)
          replace NB := hide (NB.out.below hb)
          replace NC := hide (NC.out.below hb)
          replace NJ := hide (NJ.out.below hb)
          replace NM := hide (NM.out.below hb)
          replace NK := hide (NK.out.below hb)
          replace NL := hide (NL.out.below hb)
          clear hb
          go_wp2
          go_ret
          exact ⟨rfl, HB.out⟩
        · go_enter Try.func6, Try.ntmps6
          go_wp2_with fail
          refine (HLT.out).mono ?_
          rintro e u ⟨rfl, hw⟩
          subst hw
          go_wp2_with fail
          refine (join2_any _ _ rfl _ _ _ _ _ _ A B NA.out NB.out).mono ?_
          rintro e u ⟨vJ, rfl, hO, hb⟩
          replace HB := hide (bel_next HB.out hb)
          replace NA := hide (NA.out.below hb)
          replace NB := hide (NB.out.below hb)
          replace NC := hide (NC.out.below hb)
          clear hb
          obtain ⟨pJ, cJ, hv, hns, _⟩ := hO.open
          subst hv
          have NJ := hide hns
          clear hns hO
          go_wp2_with fail
          refine (Meet_any _ _ _ _ _ _ A B _ NA.out NB.out).mono ?_
          rintro e u ⟨vM, rfl, hO, hb⟩
          replace HB := hide (bel_next HB.out hb)
          replace NA := hide (NA.out.below hb)
          replace NB := hide (NB.out.below hb)
          replace NC := hide (NC.out.below hb)
          replace NJ := hide (NJ.out.below hb)
          clear hb
          obtain ⟨pM, cM, hv, hns, _⟩ := hO.open
          subst hv
          have NM := hide hns
          clear hns hO
          go_wp2_with fail
          refine (Within_any _ _ _ _ _ _ A (pln (joinL A B)) _ NA.out NJ.out true (by symm; exact decide_eq_true (wth_j1 A B))).mono ?_
          rintro e u ⟨rfl, hb⟩
          replace HB := hide (bel_next HB.out hb)
          replace NA := hide (NA.out.below hb)
          replace NB := hide (NB.out.below hb)
          replace NC := hide (NC.out.below hb)
          replace NJ := hide (NJ.out.below hb)
          replace NM := hide (NM.out.below hb)
          clear hb
          go_wp2_with fail
          refine (Within_any _ _ _ _ _ _ B (pln (joinL A B)) _ NB.out NJ.out true (by symm; exact decide_eq_true (wth_j2 A B))).mono ?_
          rintro e u ⟨rfl, hb⟩
          replace HB := hide (bel_next HB.out hb)
          replace NA := hide (NA.out.below hb)
          replace NB := hide (NB.out.below hb)
          replace NC := hide (NC.out.below hb)
          replace NJ := hide (NJ.out.below hb)
          replace NM := hide (NM.out.below hb)
          clear hb
          go_wp2_with fail
          refine (Within_any _ _ _ _ _ _ (pln (meetL A B)) A _ NM.out NA.out true (by symm; exact decide_eq_true (wth_m1 A B))).mono ?_
          rintro e u ⟨rfl, hb⟩
          replace HB := hide (bel_next HB.out hb)
          replace NA := hide (NA.out.below hb)
          replace NB := hide (NB.out.below hb)
          replace NC := hide (NC.out.below hb)
          replace NJ := hide (NJ.out.below hb)
          replace NM := hide (NM.out.below hb)
          clear hb
          go_wp2_with fail
          refine (Within_any _ _ _ _ _ _ (pln (meetL A B)) B _ NM.out NB.out true (by symm; exact decide_eq_true (wth_m2 A B))).mono ?_
          rintro e u ⟨rfl, hb⟩
          replace HB := hide (bel_next HB.out hb)
          replace NA := hide (NA.out.below hb)
          replace NB := hide (NB.out.below hb)
          replace NC := hide (NC.out.below hb)
          replace NJ := hide (NJ.out.below hb)
          replace NM := hide (NM.out.below hb)
          clear hb
          go_wp2_with fail
          refine (Within_any _ _ _ _ _ _ A C _ NA.out NC.out true (by symm; exact decide_eq_true h1)).mono ?_
          rintro e u ⟨rfl, hb⟩
          replace HB := hide (bel_next HB.out hb)
          replace NA := hide (NA.out.below hb)
          replace NB := hide (NB.out.below hb)
          replace NC := hide (NC.out.below hb)
          replace NJ := hide (NJ.out.below hb)
          replace NM := hide (NM.out.below hb)
          clear hb
          go_wp2_with fail
          refine (Within_any _ _ _ _ _ _ B C _ NB.out NC.out (decide (wth B C)) rfl).mono ?_
          rintro e u ⟨rfl, hb⟩
          replace HB := hide (bel_next HB.out hb)
          replace NA := hide (NA.out.below hb)
          replace NB := hide (NB.out.below hb)
          replace NC := hide (NC.out.below hb)
          replace NJ := hide (NJ.out.below hb)
          replace NM := hide (NM.out.below hb)
          clear hb
          go_wp2_with fail
          refine (Within_any _ _ _ _ _ _ (pln (joinL A B)) C _ NJ.out NC.out (decide (wth B C)) (by congr 1; exact propext (wth_j A B C h1).symm)).mono ?_
          rintro e u ⟨rfl, hb⟩
          replace HB := hide (bel_next HB.out hb)
          replace NA := hide (NA.out.below hb)
          replace NB := hide (NB.out.below hb)
          replace NC := hide (NC.out.below hb)
          replace NJ := hide (NJ.out.below hb)
          replace NM := hide (NM.out.below hb)
          clear hb
          go_wp2_with fail
          refine (Within_any _ _ _ _ _ _ C A _ NC.out NA.out false (by symm; exact decide_eq_false h2)).mono ?_
          rintro e u ⟨rfl, hb⟩
          replace HB := hide (bel_next HB.out hb)
          replace NA := hide (NA.out.below hb)
          replace NB := hide (NB.out.below hb)
          replace NC := hide (NC.out.below hb)
          replace NJ := hide (NJ.out.below hb)
          replace NM := hide (NM.out.below hb)
          clear hb
          go_wp2_with fail
          refine (join3_any _ _ rfl _ _ _ _ _ _ _ _ _ A B C NA.out NB.out NC.out).mono ?_
          rintro e u ⟨vK, rfl, hO, hb⟩
          replace HB := hide (bel_next HB.out hb)
          replace NA := hide (NA.out.below hb)
          replace NB := hide (NB.out.below hb)
          replace NC := hide (NC.out.below hb)
          replace NJ := hide (NJ.out.below hb)
          replace NM := hide (NM.out.below hb)
          clear hb
          obtain ⟨pK, cK, hv, hns, _⟩ := hO.open
          subst hv
          have NK := hide hns
          clear hns hO
          go_wp2_with fail
          refine (join2_any _ _ rfl _ _ _ _ _ _ C (pln (joinL A B)) NC.out NJ.out).mono ?_
          rintro e u ⟨vL, rfl, hO, hb⟩
          replace HB := hide (bel_next HB.out hb)
          replace NA := hide (NA.out.below hb)
          replace NB := hide (NB.out.below hb)
          replace NC := hide (NC.out.below hb)
          replace NJ := hide (NJ.out.below hb)
          replace NM := hide (NM.out.below hb)
          replace NK := hide (NK.out.below hb)
          clear hb
          obtain ⟨pL, cL, hv, hns, _⟩ := hO.open
          subst hv
          have NL := hide hns
          clear hns hO
          go_wp2_with fail
          refine (same_any _ _ _ _ _ _ _ _ _ NK.out NL.out).mono ?_
          rintro e u ⟨rfl, hb⟩
          replace HB := hide (bel_next HB.out hb)
          replace NA := hide (NA.out.below hb)
          replace NB := hide (NB.out.below hb)
          replace NC := hide (NC.out.below hb)
          replace NJ := hide (NJ.out.below hb)
          replace NM := hide (NM.out.below hb)
          replace NK := hide (NK.out.below hb)
          replace NL := hide (NL.out.below hb)
          clear hb
          rw [decide_eq_true (rfl : pln (joinL C (pln (joinL A B))) = pln (joinL C (pln (joinL A B))))]
          go_wp2_with fail
          refine (awake3 _).mono ?_
          rintro e u ⟨rfl, hb⟩
          replace HB := hide (bel_next HB.out hb)
          replace NA := hide (NA.out.below hb)
          replace NB := hide (NB.out.below hb)
          replace NC := hide (NC.out.below hb)
          replace NJ := hide (NJ.out.below hb)
          replace NM := hide (NM.out.below hb)
          replace NK := hide (NK.out.below hb)
          replace NL := hide (NL.out.below hb)
          clear hb
          go_wp2
          go_ret
          exact ⟨rfl, HB.out⟩
      · by_cases h2 : wth C A
        · go_enter Try.func6, Try.ntmps6
          go_wp2_with fail
          refine (HLT.out).mono ?_
          rintro e u ⟨rfl, hw⟩
          subst hw
          go_wp2_with fail
          refine (join2_any _ _ rfl _ _ _ _ _ _ A B NA.out NB.out).mono ?_
          rintro e u ⟨vJ, rfl, hO, hb⟩
          replace HB := hide (bel_next HB.out hb)
          replace NA := hide (NA.out.below hb)
          replace NB := hide (NB.out.below hb)
          replace NC := hide (NC.out.below hb)
          clear hb
          obtain ⟨pJ, cJ, hv, hns, _⟩ := hO.open
          subst hv
          have NJ := hide hns
          clear hns hO
          go_wp2_with fail
          refine (Meet_any _ _ _ _ _ _ A B _ NA.out NB.out).mono ?_
          rintro e u ⟨vM, rfl, hO, hb⟩
          replace HB := hide (bel_next HB.out hb)
          replace NA := hide (NA.out.below hb)
          replace NB := hide (NB.out.below hb)
          replace NC := hide (NC.out.below hb)
          replace NJ := hide (NJ.out.below hb)
          clear hb
          obtain ⟨pM, cM, hv, hns, _⟩ := hO.open
          subst hv
          have NM := hide hns
          clear hns hO
          go_wp2_with fail
          refine (Within_any _ _ _ _ _ _ A (pln (joinL A B)) _ NA.out NJ.out true (by symm; exact decide_eq_true (wth_j1 A B))).mono ?_
          rintro e u ⟨rfl, hb⟩
          replace HB := hide (bel_next HB.out hb)
          replace NA := hide (NA.out.below hb)
          replace NB := hide (NB.out.below hb)
          replace NC := hide (NC.out.below hb)
          replace NJ := hide (NJ.out.below hb)
          replace NM := hide (NM.out.below hb)
          clear hb
          go_wp2_with fail
          refine (Within_any _ _ _ _ _ _ B (pln (joinL A B)) _ NB.out NJ.out true (by symm; exact decide_eq_true (wth_j2 A B))).mono ?_
          rintro e u ⟨rfl, hb⟩
          replace HB := hide (bel_next HB.out hb)
          replace NA := hide (NA.out.below hb)
          replace NB := hide (NB.out.below hb)
          replace NC := hide (NC.out.below hb)
          replace NJ := hide (NJ.out.below hb)
          replace NM := hide (NM.out.below hb)
          clear hb
          go_wp2_with fail
          refine (Within_any _ _ _ _ _ _ (pln (meetL A B)) A _ NM.out NA.out true (by symm; exact decide_eq_true (wth_m1 A B))).mono ?_
          rintro e u ⟨rfl, hb⟩
          replace HB := hide (bel_next HB.out hb)
          replace NA := hide (NA.out.below hb)
          replace NB := hide (NB.out.below hb)
          replace NC := hide (NC.out.below hb)
          replace NJ := hide (NJ.out.below hb)
          replace NM := hide (NM.out.below hb)
          clear hb
          go_wp2_with fail
          refine (Within_any _ _ _ _ _ _ (pln (meetL A B)) B _ NM.out NB.out true (by symm; exact decide_eq_true (wth_m2 A B))).mono ?_
          rintro e u ⟨rfl, hb⟩
          replace HB := hide (bel_next HB.out hb)
          replace NA := hide (NA.out.below hb)
          replace NB := hide (NB.out.below hb)
          replace NC := hide (NC.out.below hb)
          replace NJ := hide (NJ.out.below hb)
          replace NM := hide (NM.out.below hb)
          clear hb
          go_wp2_with fail
          refine (Within_any _ _ _ _ _ _ A C _ NA.out NC.out false (by symm; exact decide_eq_false h1)).mono ?_
          rintro e u ⟨rfl, hb⟩
          replace HB := hide (bel_next HB.out hb)
          replace NA := hide (NA.out.below hb)
          replace NB := hide (NB.out.below hb)
          replace NC := hide (NC.out.below hb)
          replace NJ := hide (NJ.out.below hb)
          replace NM := hide (NM.out.below hb)
          clear hb
          go_wp2_with fail
          refine (Within_any _ _ _ _ _ _ C A _ NC.out NA.out true (by symm; exact decide_eq_true h2)).mono ?_
          rintro e u ⟨rfl, hb⟩
          replace HB := hide (bel_next HB.out hb)
          replace NA := hide (NA.out.below hb)
          replace NB := hide (NB.out.below hb)
          replace NC := hide (NC.out.below hb)
          replace NJ := hide (NJ.out.below hb)
          replace NM := hide (NM.out.below hb)
          clear hb
          go_wp2_with fail
          refine (Within_any _ _ _ _ _ _ C B _ NC.out NB.out (decide (wth C B)) rfl).mono ?_
          rintro e u ⟨rfl, hb⟩
          replace HB := hide (bel_next HB.out hb)
          replace NA := hide (NA.out.below hb)
          replace NB := hide (NB.out.below hb)
          replace NC := hide (NC.out.below hb)
          replace NJ := hide (NJ.out.below hb)
          replace NM := hide (NM.out.below hb)
          clear hb
          go_wp2_with fail
          refine (Within_any _ _ _ _ _ _ C (pln (meetL A B)) _ NC.out NM.out (decide (wth C B)) (by congr 1; exact propext (wth_m A B C h2).symm)).mono ?_
          rintro e u ⟨rfl, hb⟩
          replace HB := hide (bel_next HB.out hb)
          replace NA := hide (NA.out.below hb)
          replace NB := hide (NB.out.below hb)
          replace NC := hide (NC.out.below hb)
          replace NJ := hide (NJ.out.below hb)
          replace NM := hide (NM.out.below hb)
          clear hb
          go_wp2_with fail
          refine (join3_any _ _ rfl _ _ _ _ _ _ _ _ _ A B C NA.out NB.out NC.out).mono ?_
          rintro e u ⟨vK, rfl, hO, hb⟩
          replace HB := hide (bel_next HB.out hb)
          replace NA := hide (NA.out.below hb)
          replace NB := hide (NB.out.below hb)
          replace NC := hide (NC.out.below hb)
          replace NJ := hide (NJ.out.below hb)
          replace NM := hide (NM.out.below hb)
          clear hb
          obtain ⟨pK, cK, hv, hns, _⟩ := hO.open
          subst hv
          have NK := hide hns
          clear hns hO
          go_wp2_with fail
          refine (join2_any _ _ rfl _ _ _ _ _ _ C (pln (joinL A B)) NC.out NJ.out).mono ?_
          rintro e u ⟨vL, rfl, hO, hb⟩
          replace HB := hide (bel_next HB.out hb)
          replace NA := hide (NA.out.below hb)
          replace NB := hide (NB.out.below hb)
          replace NC := hide (NC.out.below hb)
          replace NJ := hide (NJ.out.below hb)
          replace NM := hide (NM.out.below hb)
          replace NK := hide (NK.out.below hb)
          clear hb
          obtain ⟨pL, cL, hv, hns, _⟩ := hO.open
          subst hv
          have NL := hide hns
          clear hns hO
          go_wp2_with fail
          refine (same_any _ _ _ _ _ _ _ _ _ NK.out NL.out).mono ?_
          rintro e u ⟨rfl, hb⟩
          replace HB := hide (bel_next HB.out hb)
          replace NA := hide (NA.out.below hb)
          replace NB := hide (NB.out.below hb)
          replace NC := hide (NC.out.below hb)
          replace NJ := hide (NJ.out.below hb)
          replace NM := hide (NM.out.below hb)
          replace NK := hide (NK.out.below hb)
          replace NL := hide (NL.out.below hb)
          clear hb
          rw [decide_eq_true (rfl : pln (joinL C (pln (joinL A B))) = pln (joinL C (pln (joinL A B))))]
          go_wp2_with fail
          refine (awake3 _).mono ?_
          rintro e u ⟨rfl, hb⟩
          replace HB := hide (bel_next HB.out hb)
          replace NA := hide (NA.out.below hb)
          replace NB := hide (NB.out.below hb)
          replace NC := hide (NC.out.below hb)
          replace NJ := hide (NJ.out.below hb)
          replace NM := hide (NM.out.below hb)
          replace NK := hide (NK.out.below hb)
          replace NL := hide (NL.out.below hb)
          clear hb
          go_wp2
          go_ret
          exact ⟨rfl, HB.out⟩
        · go_enter Try.func6, Try.ntmps6
          go_wp2_with fail
          refine (HLT.out).mono ?_
          rintro e u ⟨rfl, hw⟩
          subst hw
          go_wp2_with fail
          refine (join2_any _ _ rfl _ _ _ _ _ _ A B NA.out NB.out).mono ?_
          rintro e u ⟨vJ, rfl, hO, hb⟩
          replace HB := hide (bel_next HB.out hb)
          replace NA := hide (NA.out.below hb)
          replace NB := hide (NB.out.below hb)
          replace NC := hide (NC.out.below hb)
          clear hb
          obtain ⟨pJ, cJ, hv, hns, _⟩ := hO.open
          subst hv
          have NJ := hide hns
          clear hns hO
          go_wp2_with fail
          refine (Meet_any _ _ _ _ _ _ A B _ NA.out NB.out).mono ?_
          rintro e u ⟨vM, rfl, hO, hb⟩
          replace HB := hide (bel_next HB.out hb)
          replace NA := hide (NA.out.below hb)
          replace NB := hide (NB.out.below hb)
          replace NC := hide (NC.out.below hb)
          replace NJ := hide (NJ.out.below hb)
          clear hb
          obtain ⟨pM, cM, hv, hns, _⟩ := hO.open
          subst hv
          have NM := hide hns
          clear hns hO
          go_wp2_with fail
          refine (Within_any _ _ _ _ _ _ A (pln (joinL A B)) _ NA.out NJ.out true (by symm; exact decide_eq_true (wth_j1 A B))).mono ?_
          rintro e u ⟨rfl, hb⟩
          replace HB := hide (bel_next HB.out hb)
          replace NA := hide (NA.out.below hb)
          replace NB := hide (NB.out.below hb)
          replace NC := hide (NC.out.below hb)
          replace NJ := hide (NJ.out.below hb)
          replace NM := hide (NM.out.below hb)
          clear hb
          go_wp2_with fail
          refine (Within_any _ _ _ _ _ _ B (pln (joinL A B)) _ NB.out NJ.out true (by symm; exact decide_eq_true (wth_j2 A B))).mono ?_
          rintro e u ⟨rfl, hb⟩
          replace HB := hide (bel_next HB.out hb)
          replace NA := hide (NA.out.below hb)
          replace NB := hide (NB.out.below hb)
          replace NC := hide (NC.out.below hb)
          replace NJ := hide (NJ.out.below hb)
          replace NM := hide (NM.out.below hb)
          clear hb
          go_wp2_with fail
          refine (Within_any _ _ _ _ _ _ (pln (meetL A B)) A _ NM.out NA.out true (by symm; exact decide_eq_true (wth_m1 A B))).mono ?_
          rintro e u ⟨rfl, hb⟩
          replace HB := hide (bel_next HB.out hb)
          replace NA := hide (NA.out.below hb)
          replace NB := hide (NB.out.below hb)
          replace NC := hide (NC.out.below hb)
          replace NJ := hide (NJ.out.below hb)
          replace NM := hide (NM.out.below hb)
          clear hb
          go_wp2_with fail
          refine (Within_any _ _ _ _ _ _ (pln (meetL A B)) B _ NM.out NB.out true (by symm; exact decide_eq_true (wth_m2 A B))).mono ?_
          rintro e u ⟨rfl, hb⟩
          replace HB := hide (bel_next HB.out hb)
          replace NA := hide (NA.out.below hb)
          replace NB := hide (NB.out.below hb)
          replace NC := hide (NC.out.below hb)
          replace NJ := hide (NJ.out.below hb)
          replace NM := hide (NM.out.below hb)
          clear hb
          go_wp2_with fail
          refine (Within_any _ _ _ _ _ _ A C _ NA.out NC.out false (by symm; exact decide_eq_false h1)).mono ?_
          rintro e u ⟨rfl, hb⟩
          replace HB := hide (bel_next HB.out hb)
          replace NA := hide (NA.out.below hb)
          replace NB := hide (NB.out.below hb)
          replace NC := hide (NC.out.below hb)
          replace NJ := hide (NJ.out.below hb)
          replace NM := hide (NM.out.below hb)
          clear hb
          go_wp2_with fail
          refine (Within_any _ _ _ _ _ _ C A _ NC.out NA.out false (by symm; exact decide_eq_false h2)).mono ?_
          rintro e u ⟨rfl, hb⟩
          replace HB := hide (bel_next HB.out hb)
          replace NA := hide (NA.out.below hb)
          replace NB := hide (NB.out.below hb)
          replace NC := hide (NC.out.below hb)
          replace NJ := hide (NJ.out.below hb)
          replace NM := hide (NM.out.below hb)
          clear hb
          go_wp2_with fail
          refine (join3_any _ _ rfl _ _ _ _ _ _ _ _ _ A B C NA.out NB.out NC.out).mono ?_
          rintro e u ⟨vK, rfl, hO, hb⟩
          replace HB := hide (bel_next HB.out hb)
          replace NA := hide (NA.out.below hb)
          replace NB := hide (NB.out.below hb)
          replace NC := hide (NC.out.below hb)
          replace NJ := hide (NJ.out.below hb)
          replace NM := hide (NM.out.below hb)
          clear hb
          obtain ⟨pK, cK, hv, hns, _⟩ := hO.open
          subst hv
          have NK := hide hns
          clear hns hO
          go_wp2_with fail
          refine (join2_any _ _ rfl _ _ _ _ _ _ C (pln (joinL A B)) NC.out NJ.out).mono ?_
          rintro e u ⟨vL, rfl, hO, hb⟩
          replace HB := hide (bel_next HB.out hb)
          replace NA := hide (NA.out.below hb)
          replace NB := hide (NB.out.below hb)
          replace NC := hide (NC.out.below hb)
          replace NJ := hide (NJ.out.below hb)
          replace NM := hide (NM.out.below hb)
          replace NK := hide (NK.out.below hb)
          clear hb
          obtain ⟨pL, cL, hv, hns, _⟩ := hO.open
          subst hv
          have NL := hide hns
          clear hns hO
          go_wp2_with fail
          refine (same_any _ _ _ _ _ _ _ _ _ NK.out NL.out).mono ?_
          rintro e u ⟨rfl, hb⟩
          replace HB := hide (bel_next HB.out hb)
          replace NA := hide (NA.out.below hb)
          replace NB := hide (NB.out.below hb)
          replace NC := hide (NC.out.below hb)
          replace NJ := hide (NJ.out.below hb)
          replace NM := hide (NM.out.below hb)
          replace NK := hide (NK.out.below hb)
          replace NL := hide (NL.out.below hb)
          clear hb
          rw [decide_eq_true (rfl : pln (joinL C (pln (joinL A B))) = pln (joinL C (pln (joinL A B))))]
          go_wp2_with fail
          refine (awake3 _).mono ?_
          rintro e u ⟨rfl, hb⟩
          replace HB := hide (bel_next HB.out hb)
          replace NA := hide (NA.out.below hb)
          replace NB := hide (NB.out.below hb)
          replace NC := hide (NC.out.below hb)
          replace NJ := hide (NJ.out.below hb)
          replace NM := hide (NM.out.below hb)
          replace NK := hide (NK.out.below hb)
          replace NL := hide (NL.out.below hb)
          clear hb
          go_wp2
          go_ret
          exact ⟨rfl, HB.out⟩
  · have HLT := hide (light3_as a b na ca nb' cb w hna hnb false (decide_eq_false hl))
    clear hl hna hnb hnc
    go_enter Try.func6, Try.ntmps6
    go_wp2_with fail
    refine (HLT.out).mono ?_
    rintro e u ⟨rfl, hw⟩
    subst hw
    go_wp2_with fail
    refine (awake3 _).mono ?_
    rintro e u ⟨rfl, hb⟩
    replace HB := hide (bel_next HB.out hb)
    replace NA := hide (NA.out.below hb)
    replace NB := hide (NB.out.below hb)
    replace NC := hide (NC.out.below hb)
    clear hb
    go_wp2
    go_ret
    exact ⟨rfl, HB.out⟩

/-! ### The row's step -/
set_option maxRecDepth 100000 in
theorem lifted (os : Os) (started : os.Started) (H : Type) (enc : TypeId × Value → H) :
    ReturnsInHanded {} Try.checked os 6 .any (Rows.clockBoundsSpec.pre6 enc Try.prog Try.f6 Rows.clockBoundsRow.domain false) (Rows.clockBoundsSpec.post enc Try.prog Try.f6 false true false false) := by
  refine returnsInHanded_of_change_sized (C := Try.checked) own started (by kernel_rfl) Try.func6
    (ChangeSpec.witness6 (enc := enc) (C := Try.checked) false ⟨#[], #[.slice none 0 0, .slice none 0 0, .slice none 0 0], []⟩ 8 (by kernel_rfl) (by kernel_rfl) (by kernel_rfl) (by kernel_rfl)) ?_
  intro W base args ds gs before hval0 hW hcnd hz0 _
  have hval : ∀ (j : Nat) t v, Try.f6.params[j]? = some t → args[j]? = some v → Value.okWide Try.prog W .any base t v := hval0
  have hz : (DataW.weightsEach Try.prog (Try.f6.params.toList ++ Rows.clockBoundsSpec.plain.varTypes Try.prog) (ds ++ gs)).all (· ≤ reachBytes) = true := hz0
  have hW' := hW
  obtain ⟨p, q, hA0, hV, rfl, hfz, hnd⟩ := hW
  have hA : DataW.TrodAll enc Try.prog W 0 (fun _ => true) true Try.f6.params.toList args.toList ds p := hA0
  rw [Try.params6] at hA hval hz
  obtain ⟨v0, vs0, d0, ds0, p0, q0, hargs, rfl, rfl, h0, r0⟩ := trodAll_cons hA
  obtain ⟨v1, vs1, d1, ds1, p1, q1, rfl, rfl, rfl, h1, r1⟩ := trodAll_cons r0
  obtain ⟨v2, vs2, d2, ds2, p2, q2, rfl, rfl, rfl, h2, r2⟩ := trodAll_cons r1
  obtain ⟨rfl, rfl, rfl⟩ := trodAll_nil r2
  obtain rfl : args = #[v0, v1, v2] := by cases args; simp_all
  obtain ⟨rfl, rfl⟩ := trodVars_none hV
  have k0 := h0
  have lt0 : ∀ x ∈ p0, x.block < W.heap.size := by obtain ⟨m, hm⟩ := k0; exact DataW.trod_lt m _ _ _ hm
  have w0 : InN W v0 := in_nums (hval 0 23 v0 rfl rfl) h0 (fun n hn => by have := List.all_eq_true.1 hz n (DataW.weights_mem_each (j := 0) (t := 23) rfl rfl n hn); simpa using this)
  have k1 := h1
  have lt1 : ∀ x ∈ p1, x.block < W.heap.size := by obtain ⟨m, hm⟩ := k1; exact DataW.trod_lt m _ _ _ hm
  have w1 : InN W v1 := in_nums (hval 1 23 v1 rfl rfl) h1 (fun n hn => by have := List.all_eq_true.1 hz n (DataW.weights_mem_each (j := 1) (t := 23) rfl rfl n hn); simpa using this)
  have k2 := h2
  have lt2 : ∀ x ∈ p2, x.block < W.heap.size := by obtain ⟨m, hm⟩ := k2; exact DataW.trod_lt m _ _ _ hm
  have w2 : InN W v2 := in_nums (hval 2 23 v2 rfl rfl) h2 (fun n hn => by have := List.all_eq_true.1 hz n (DataW.weights_mem_each (j := 2) (t := 23) rfl rfl n hn); simpa using this)
  clear hA0 hval0 hz0
  refine (walk v0 v1 v2 W w0 w1 w2).mono fun e W' ⟨he, bel⟩ => ?_
  subst he
  exact ⟨_, rfl, _, _, _, [], _, [], hW', trodAll_mk1 (shut_bool Try.underlying4 _), (trodAll_cons_mk (Below.trod laidOut (by kernel_rfl) (of_decide_eq_true (by kernel_rfl)) k0 bel lt0) (trodAll_cons_mk (Below.trod laidOut (by kernel_rfl) (of_decide_eq_true (by kernel_rfl)) k1 bel lt1) (trodAll_cons_mk (Below.trod laidOut (by kernel_rfl) (of_decide_eq_true (by kernel_rfl)) k2 bel lt2) trodAll_mk0))), rfl, bel.frame _, fun h => by cases h⟩

theorem over : Rows.clockBoundsRow.holds Try.pinned (OpenSpec.ofChange Rows.clockBoundsSpec) :=
  OpenClaim.holds_of_wide 6 Try.f6 rfl rfl rfl rfl rfl rfl rfl ⟨rfl, rfl, rfl, rfl, rfl⟩ rfl rfl rfl rfl rfl (by kernel_rfl) Try.func6 (by kernel_rfl)
    (of_decide_eq_true (by kernel_rfl)) (by unfold Func.isWrapper; first | (rw [if_pos (by decide +kernel)]; kernel_rfl) | (rw [if_neg (by decide +kernel)]; exact ⟨rfl, rfl⟩))
    (fun os started H enc _ => lifted os started H enc)
end Go.Proofs.Ytbeknlpoialgiaa.clockBounds
namespace Go.Proofs.Ytbeknlpoialgiaa
theorem clockBounds_holds : Rows.ClockBoundsSaid := clockBounds.over
end Go.Proofs.Ytbeknlpoialgiaa
