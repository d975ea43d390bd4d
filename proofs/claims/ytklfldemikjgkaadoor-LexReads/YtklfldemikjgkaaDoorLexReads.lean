/- The tokens of any text, or where it has none, and whether a text is a word, are as the document says. -/
import Derived.Test.YtklfldemikjgkaaDoorRows
import Derived.Test.YtklfldemikjgkaaDoorCards
import Derived.Test.YtklfldemikjgkaaDoorTie
import Derived.SevenTiedAt
import Derived.LaidMore
import Derived.LaidLaws
import Derived.Handed
import Derived.WalkKit
import Derived.ProofKit
import Derived.OpenShut
import Derived.ShutString
import Derived.ChangeOld
import Derived.Below
import Derived.SizedLaws
import Derived.Test.YtklfldemikjgkaaDoorL9
import Derived.Test.YtklfldemikjgkaaDoorLV
namespace Go.Proofs.YtklfldemikjgkaaDoor.lexReads
open Go.ChangeShapes Go.WideShapes Go.ChangeAt Go.RowKit
set_option linter.unusedVariables false

theorem own : ownKnob Tryd.prog.godebug = none := by kernel_rfl
theorem laidOut : laidOutB Tryd.prog = true := by kernel_rfl

set_option maxRecDepth 2000 in
set_option maxHeartbeats 8000000 in
theorem walk (v0 : Value) (v1 : Value) (w : World) (w0 : InS14 w v0) (w1 : InS14 w v1) (hlv : LV w) :
    Calls Tryd.prog 3 #[v0, v1] w fun e w' => e = .returned (.bool true) ∧ Below w.heap.size w w' := by
  have HLV := hide hlv
  clear hlv
  have HB0 : Hid (Below w.heap.size w w) := Below.refl _ _
  obtain ⟨s, rfl⟩ := w0
  obtain ⟨wd, rfl⟩ := w1
  obtain ⟨n, hn⟩ : ∃ n, s.size = n := ⟨_, rfl⟩
  obtain ⟨m, hm⟩ : ∃ m, wd.size = m := ⟨_, rfl⟩
  by_cases h1 : (5000 : Int) < (n : Int)
  · go_enter Tryd.func3, Tryd.ntmps3
    go_wp2_with (go_at_call 6; refine (awake14 _ HLV.out).mono ?_; rintro e wz ⟨rfl, hb⟩)
    go_ret
    exact ⟨rfl, hb⟩
  · by_cases h2 : (100 : Int) < (m : Int)
    · go_enter Tryd.func3, Tryd.ntmps3
      go_wp2_with (go_at_call 6; refine (awake14 _ HLV.out).mono ?_; rintro e wz ⟨rfl, hb⟩)
      go_ret
      exact ⟨rfl, hb⟩
    · have hsm : s.size ≤ maxLen := by unfold maxLen; omega
      have HR := hide (fun W (hW : LV W) => ReadP14 s W hsm hW)
      have HD := hide (fun W => ReadD14 s W hsm)
      have HW := hide (fun W => WordP14 wd W (by omega))
      have HX := hide (fun W => Word14 wd W (by omega))
      generalize wordB (bytesL wd) = wb at HW HX
      clear hsm
      go_enter Tryd.func3, Tryd.ntmps3
      go_upto_region 4 with (go_at_call 7; refine (HR.out _ HLV.out).mono ?_; rintro e w1 ⟨p, c, ts, x, e0, rfl, hl, hk, _, hb⟩; have HL := hide hl; have HK := hide hk; have HB := hide hb; clear hl hk hb)
      go_upto_region 5 with (go_at_call 8; refine (HD.out _).mono ?_; rintro e w2 ⟨p2, c2, ts2, x2, e2, rfl, hl, hk, _, hb⟩; have HL2 := hide hl; have HK2 := hide hk; replace HK := hide (HK.out.below hb); replace HB := hide (bel_next HB.out hb); clear hl hk hb)
      obtain ⟨rfl, rfl, rfl⟩ : ts2 = ts ∧ x2 = x ∧ e2 = e0 := by
        have q := HL.out
        rw [HL2.out] at q
        cases q
        exact ⟨rfl, rfl, rfl⟩
      have HSM : Hid (∀ W, KS W p ts2.length ts2 → KS W p2 ts2.length ts2 → Calls Tryd.prog 9 #[.slice p ts2.length c, .slice p2 ts2.length c2] W fun e w' => e = .returned (.bool true) ∧ Below W.heap.size W w') := fun W g1 g2 => by
        have q := Same14_ref p ts2.length c ts2 p2 ts2.length c2 ts2 W g1 g2
        rw [decide_eq_true rfl] at q
        exact q
      clear HL HL2
      generalize ts2.length = nt at *
      go_wp2_with (first | (go_at_call 9; refine (HSM.out _ HK.out HK2.out).mono ?_; rintro e w3 ⟨rfl, hb⟩; replace HB := hide (bel_next HB.out hb); clear hb) | (go_at_call 10; refine (HW.out _).mono ?_; rintro e w4 ⟨rfl, hb⟩; replace HB := hide (bel_next HB.out hb); clear hb) | (go_at_call 11; refine (HX.out _).mono ?_; rintro e w5 ⟨rfl, hw9⟩; have hw8 := hw9.symm; subst hw8; clear hw9) | (go_at_call 6; refine (awake14 _ (HLV.out.below HB.out)).mono ?_; rintro e wz ⟨rfl, hb⟩; replace HB := hide (bel_next HB.out hb); clear hb))
      go_ret
      exact ⟨rfl, HB.out⟩

/-! ### The row's step -/
theorem door_met (os : Os) (args : Array Value) : laidMetH Tryd.prog Rows.lexReadsRow.laid ((World.doorLaid Tryd.prog 400 os).forCall (fun _ _ => 0) ⟨#[], args, []⟩).memory :=
  laidMetH_of_parts3 (fuel := 8) (laidMet_of_run' 8 (by kernel_rfl) (by kernel_rfl)) (by kernel_rfl) (by kernel_rfl)
set_option maxRecDepth 100000 in
theorem lifted (os : Os) (started : os.Started) (H : Type) (enc : TypeId × Value → H) :
    ReturnsInHanded {} Tryd.checked os 3 .any (fun w args => (Rows.lexReadsSpec.pre enc Tryd.prog Tryd.f3 Rows.lexReadsRow.domain false w args ∧ laidMetH Tryd.prog Rows.lexReadsRow.laid w) ∧ sizedMet enc Tryd.prog Tryd.f3 (OpenSpec.ofChange Rows.lexReadsSpec) false w args) (Rows.lexReadsSpec.post enc Tryd.prog Tryd.f3 false true false false) := by
  refine returnsInHanded_of_change_and (C := Tryd.checked) (X := fun w _ => laidMetH Tryd.prog Rows.lexReadsRow.laid w) (fun _ _ _ hh h => h.of_heap hh) own started (by kernel_rfl) Tryd.func3
    (ChangeSpec.witness_shaped (enc := enc) (C := Tryd.checked) (os := os) (X := fun w _ => laidMetH Tryd.prog Rows.lexReadsRow.laid w) false (World.doorLaid Tryd.prog 400 os) #[.string ⟨#[]⟩, .string ⟨#[]⟩] 8 rfl (World.shaped_of_RefB (by kernel_rfl) (by kernel_rfl)) (by kernel_rfl) (by kernel_rfl) (by kernel_rfl) (door_met os _)) ?_
  intro W base args ds gs before hval0 hW hcnd hz0 hL _
  have hval : ∀ (j : Nat) t v, Tryd.f3.params[j]? = some t → args[j]? = some v → Value.okWide Tryd.prog W .any base t v := hval0
  have hz : (DataW.weightsEach Tryd.prog (Tryd.f3.params.toList ++ Rows.lexReadsSpec.plain.varTypes Tryd.prog) (ds ++ gs)).all (· ≤ reachBytes) = true := hz0
  have hW' := hW
  obtain ⟨p, q, hA0, hV, rfl, hfz, hnd⟩ := hW
  have hA : DataW.TrodAll enc Tryd.prog W 0 (fun _ => true) true Tryd.f3.params.toList args.toList ds p := hA0
  rw [Tryd.params3] at hA hval hz
  obtain ⟨v0, vs0, d0, ds0, p0, q0, hargs, rfl, rfl, h0, r0⟩ := trodAll_cons hA
  obtain ⟨v1, vs1, d1, ds1, p1, q1, rfl, rfl, rfl, h1, r1⟩ := trodAll_cons r0
  obtain ⟨rfl, rfl, rfl⟩ := trodAll_nil r1
  obtain rfl : args = #[v0, v1] := by cases args; simp_all
  obtain ⟨rfl, rfl⟩ := trodVars_none hV
  have k0 := h0
  have lt0 : ∀ x ∈ p0, x.block < W.heap.size := by obtain ⟨m, hm⟩ := k0; exact DataW.trod_lt m _ _ _ hm
  have w0 : InS14 W v0 := in_str14 (hval 0 9 v0 rfl rfl) h0 (fun n hn => by have := List.all_eq_true.1 hz n (DataW.weights_mem_each (j := 0) (t := 9) rfl rfl n hn); simpa using this)
  have k1 := h1
  have lt1 : ∀ x ∈ p1, x.block < W.heap.size := by obtain ⟨m, hm⟩ := k1; exact DataW.trod_lt m _ _ _ hm
  have w1 : InS14 W v1 := in_str14 (hval 1 9 v1 rfl rfl) h1 (fun n hn => by have := List.all_eq_true.1 hz n (DataW.weights_mem_each (j := 1) (t := 9) rfl rfl n hn); simpa using this)
  clear hA0 hval0 hz0
  refine (walk v0 v1 W w0 w1 (lv_of hL)).mono fun e W' ⟨he, bel⟩ => ?_
  subst he
  exact ⟨_, rfl, _, _, _, [], _, [], hW', trodAll_mk1 (shut_bool Tryd.underlying4 _), (trodAll_cons_mk (Below.trod laidOut (by kernel_rfl) (of_decide_eq_true (by kernel_rfl)) k0 bel lt0) (trodAll_cons_mk (Below.trod laidOut (by kernel_rfl) (of_decide_eq_true (by kernel_rfl)) k1 bel lt1) trodAll_mk0)), rfl, bel.frame _, fun h => by cases h⟩

theorem over : Rows.lexReadsRow.holds Tryd.pinned (OpenSpec.ofChange Rows.lexReadsSpec) :=
  OpenClaim.holds_of_wide 3 Tryd.f3 rfl rfl rfl rfl rfl rfl rfl ⟨rfl, rfl, rfl, rfl, rfl⟩ rfl rfl rfl rfl rfl (by kernel_rfl) Tryd.func3 (by kernel_rfl)
    (of_decide_eq_true (by kernel_rfl)) (by unfold Func.isWrapper; first | (rw [if_pos (by decide +kernel)]; kernel_rfl) | (rw [if_neg (by decide +kernel)]; exact ⟨rfl, rfl⟩))
    (fun os started H enc _ => lifted os started H enc)
end Go.Proofs.YtklfldemikjgkaaDoor.lexReads
namespace Go.Proofs.YtklfldemikjgkaaDoor
open Go
theorem lexReads_plain (f : FuncId) (fn : Func) (hf : Tryd.pinned.checked.prog.funcNamed "huckster/hucksterlaw14.LexReads" = some f) (hfn : Tryd.pinned.checked.prog.funcs[f]? = some fn) :
    true = Tryd.pinned.checked.prog.looks [] ∧ ∀ (j : Nat) t, fn.params[j]? = some t → Tryd.pinned.checked.prog.wantsStandIn t = false := by
  obtain rfl : f = 3 := Option.some.inj ((show Tryd.prog.funcNamed "huckster/hucksterlaw14.LexReads" = some 3 by kernel_rfl).symm.trans hf) |>.symm
  obtain rfl : fn = Tryd.f3 := (Option.some.inj (Tryd.func3.symm.trans hfn)).symm
  refine ⟨by kernel_rfl, fun j t ht => ?_⟩
  rw [Tryd.params3] at ht
  have hm : t ∈ [9, 9] := by simpa using Array.mem_of_getElem? ht
  have hall : ([9, 9].all fun u => !Tryd.prog.wantsStandIn u) = true := by kernel_rfl
  exact (show Tryd.prog.wantsStandIn t = false by simpa using List.all_eq_true.1 hall t hm)
/-- The tied card. -/
theorem lexReads_holds : Rows.LexReadsCardSaid :=
  Claim7.holds_tied_plain_at .later [] _ _ _ _ lexReads.over (fun _ h => by cases h) (by kernel_rfl) (fun _ h => by cases h) lexReads_row_tie rfl ⟨rfl, rfl⟩ (by kernel_rfl) rfl lexReads_plain (by kernel_rfl)
end Go.Proofs.YtklfldemikjgkaaDoor
