/- ClockOrders is true for every two clocks: Join, Meet, Within and Order answer as the document's own. Conditions: none but the form's own. -/
import Derived.Test.YtbeknlpoialgiaaRows
import Derived.WalkKit
import Derived.ProofKit
import Derived.OpenShut
import Derived.ShutString
import Derived.ChangeOld
import Derived.Below
import Derived.SizedLaws
import Derived.Test.YtbeknlpoialgiaaCLaw
namespace Go.Proofs.Ytbeknlpoialgiaa.clockOrders
open Go.ChangeShapes Go.WideShapes Go.ChangeAt Go.RowKit
set_option linter.unusedVariables false

theorem own : ownKnob Try.prog.godebug = none := by kernel_rfl
theorem laidOut : laidOutB Try.prog = true := by kernel_rfl

theorem walk (v0 : Value) (v1 : Value) (w : World) (w0 : InN w v0) (w1 : InN w v1) :
    Calls Try.prog 4 #[v0, v1] w fun e w' => e = .returned (.bool true) ∧ Below w.heap.size w w' := by
  obtain ⟨a, n, cap, c, rfl, hN, hcp⟩ := w0
  obtain ⟨b, m, cap', d, rfl, hM, hcp'⟩ := w1
  have hn := hN.2.1
  have hm := hM.2.1
  have HN := hide hN
  have HM := hide hM
  by_cases hl : n ≤ 50 ∧ m ≤ 50
  · have HLT := hide (light3_as a b n cap m cap' w hn hm true (decide_eq_true hl))
    clear hN hM hcp hcp' hn hm hl
    go_enter Try.func4, Try.ntmps4
    go_wp2_with (first
      | (go_at_call 8; refine HLT.out.mono ?_; rintro e w' ⟨rfl, rfl⟩)
      | (go_at_call 22; refine (join2_any _ _ rfl a b n cap m cap' c d HN.out HM.out).mono ?_; rintro e w1 ⟨v1, rfl, hO, hB⟩; have HO1 := hide hO; have HB1 := hide hB; clear hO hB)
      | (go_at_call 23; refine (join_ref a b n cap m cap' c d w1 (HN.out.below HB1.out) (HM.out.below HB1.out)).mono ?_; rintro e w2 ⟨v2, rfl, hO, hB⟩; have HO2 := hide hO; have HO1' := hide (HO1.out.below hB); have HB2 := hide (bel_next HB1.out hB); clear hO hB HO1 HB1)
      | (go_at_call_of 14 v1; refine (same_own _ _ _ _ _ _ _ HO1'.out HO2.out true (by simp)).mono ?_; rintro e w3 ⟨rfl, hB⟩; have HB3 := hide (bel_next HB2.out hB); clear hB HB2 HO2 HO1')
      | (go_at_call 24; refine (Meet_any a b n cap m cap' c d w3 (HN.out.below HB3.out) (HM.out.below HB3.out)).mono ?_; rintro e w4 ⟨v4, rfl, hO, hB⟩; have HO4 := hide hO; have HB4 := hide (bel_next HB3.out hB); clear hO hB HB3)
      | (go_at_call 25; refine (meet_ref a b n cap m cap' c d w4 (HN.out.below HB4.out) (HM.out.below HB4.out)).mono ?_; rintro e w5 ⟨v5, rfl, hO, hB⟩; have HO5 := hide hO; have HO4' := hide (HO4.out.below hB); have HB5 := hide (bel_next HB4.out hB); clear hO hB HO4 HB4)
      | (go_at_call_of 14 v4; refine (same_own _ _ _ _ _ _ _ HO4'.out HO5.out true (by simp)).mono ?_; rintro e w6 ⟨rfl, hB⟩; have HB6 := hide (bel_next HB5.out hB); clear hB HB5 HO5 HO4')
      | (go_at_call 26; refine (Within_any a b n cap m cap' c d w6 (HN.out.below HB6.out) (HM.out.below HB6.out) _ rfl).mono ?_; rintro e w7 ⟨rfl, hB⟩; have HB7 := hide (bel_next HB6.out hB); clear hB HB6)
      | (go_at_call 27; refine (within_ref a b n cap m cap' c d w7 (HN.out.below HB7.out) (HM.out.below HB7.out)).mono ?_; rintro e w8 ⟨rfl, rfl⟩)
      | (go_at_call 28; refine (Order_any a b n cap m cap' c d _ (HN.out.below HB7.out) (HM.out.below HB7.out)).mono ?_; rintro e w9 ⟨rfl, hB⟩; have HB9 := hide (bel_next HB7.out hB); clear hB HB7)
      | (go_at_call 29; refine (order_ref a b n cap m cap' c d w9 (HN.out.below HB9.out) (HM.out.below HB9.out)).mono ?_; rintro e w8 ⟨rfl, rfl⟩)
      | (go_at_call 9; refine (awake3 _).mono ?_; rintro e w10 ⟨rfl, hB⟩; have HB10 := hide (bel_next HB9.out hB); clear hB HB9))
    go_ret
    exact ⟨rfl, HB10.out⟩
  · have HLT := hide (light3_as a b n cap m cap' w hn hm false (decide_eq_false hl))
    clear hN hM hcp hcp' hn hm hl
    go_enter Try.func4, Try.ntmps4
    go_wp2_with (first
      | (go_at_call 8; refine HLT.out.mono ?_; rintro e w' ⟨rfl, rfl⟩)
      | (go_at_call 9; refine (awake3 _).mono ?_; rintro e w10 ⟨rfl, hB⟩; have HB10 := hide hB; clear hB))
    go_ret
    exact ⟨rfl, HB10.out⟩

/-! ### The row's step -/
set_option maxRecDepth 100000 in
theorem lifted (os : Os) (started : os.Started) (H : Type) (enc : TypeId × Value → H) :
    ReturnsInHanded {} Try.checked os 4 .any (Rows.clockOrdersSpec.pre6 enc Try.prog Try.f4 Rows.clockOrdersRow.domain false) (Rows.clockOrdersSpec.post enc Try.prog Try.f4 false true false false) := by
  refine returnsInHanded_of_change_sized (C := Try.checked) own started (by kernel_rfl) Try.func4
    (ChangeSpec.witness6 (enc := enc) (C := Try.checked) false ⟨#[], #[.slice none 0 0, .slice none 0 0], []⟩ 8 (by kernel_rfl) (by kernel_rfl) (by kernel_rfl) (by kernel_rfl)) ?_
  intro W base args ds gs before hval0 hW hcnd hz0 _
  have hval : ∀ (j : Nat) t v, Try.f4.params[j]? = some t → args[j]? = some v → Value.okWide Try.prog W .any base t v := hval0
  have hz : (DataW.weightsEach Try.prog (Try.f4.params.toList ++ Rows.clockOrdersSpec.plain.varTypes Try.prog) (ds ++ gs)).all (· ≤ reachBytes) = true := hz0
  have hW' := hW
  obtain ⟨p, q, hA0, hV, rfl, hfz, hnd⟩ := hW
  have hA : DataW.TrodAll enc Try.prog W 0 (fun _ => true) true Try.f4.params.toList args.toList ds p := hA0
  rw [Try.params4] at hA hval hz
  obtain ⟨v0, vs0, d0, ds0, p0, q0, hargs, rfl, rfl, h0, r0⟩ := trodAll_cons hA
  obtain ⟨v1, vs1, d1, ds1, p1, q1, rfl, rfl, rfl, h1, r1⟩ := trodAll_cons r0
  obtain ⟨rfl, rfl, rfl⟩ := trodAll_nil r1
  obtain rfl : args = #[v0, v1] := by cases args; simp_all
  obtain ⟨rfl, rfl⟩ := trodVars_none hV
  have k0 := h0
  have lt0 : ∀ x ∈ p0, x.block < W.heap.size := by obtain ⟨m, hm⟩ := k0; exact DataW.trod_lt m _ _ _ hm
  have w0 : InN W v0 := in_nums (hval 0 23 v0 rfl rfl) h0 (fun n hn => by have := List.all_eq_true.1 hz n (DataW.weights_mem_each (j := 0) (t := 23) rfl rfl n hn); simpa using this)
  have k1 := h1
  have lt1 : ∀ x ∈ p1, x.block < W.heap.size := by obtain ⟨m, hm⟩ := k1; exact DataW.trod_lt m _ _ _ hm
  have w1 : InN W v1 := in_nums (hval 1 23 v1 rfl rfl) h1 (fun n hn => by have := List.all_eq_true.1 hz n (DataW.weights_mem_each (j := 1) (t := 23) rfl rfl n hn); simpa using this)
  clear hA0 hval0 hz0
  refine (walk v0 v1 W w0 w1).mono fun e W' ⟨he, bel⟩ => ?_
  subst he
  exact ⟨_, rfl, _, _, _, [], _, [], hW', trodAll_mk1 (shut_bool Try.underlying4 _), (trodAll_cons_mk (Below.trod laidOut (by kernel_rfl) (of_decide_eq_true (by kernel_rfl)) k0 bel lt0) (trodAll_cons_mk (Below.trod laidOut (by kernel_rfl) (of_decide_eq_true (by kernel_rfl)) k1 bel lt1) trodAll_mk0)), rfl, bel.frame _, fun h => by cases h⟩

theorem over : Rows.clockOrdersRow.holds Try.pinned (OpenSpec.ofChange Rows.clockOrdersSpec) :=
  OpenClaim.holds_of_wide 4 Try.f4 rfl rfl rfl rfl rfl rfl rfl ⟨rfl, rfl, rfl, rfl, rfl⟩ rfl rfl rfl rfl rfl (by kernel_rfl) Try.func4 (by kernel_rfl)
    (of_decide_eq_true (by kernel_rfl)) (by unfold Func.isWrapper; first | (rw [if_pos (by decide +kernel)]; kernel_rfl) | (rw [if_neg (by decide +kernel)]; exact ⟨rfl, rfl⟩))
    (fun os started H enc _ => lifted os started H enc)
end Go.Proofs.Ytbeknlpoialgiaa.clockOrders
namespace Go.Proofs.Ytbeknlpoialgiaa
theorem clockOrders_holds : Rows.ClockOrdersSaid := clockOrders.over
end Go.Proofs.Ytbeknlpoialgiaa
