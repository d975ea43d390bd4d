/- For every number and every two bytes: the statement 'WireRecords' returns true, and its arguments read behind the call as they read before. No condition. -/
import Derived.Test.YtgmimneendnfgaaRows
import Derived.WalkKit
import Derived.ProofKit
import Derived.OpenShut
import Derived.ShutString
import Derived.ChangeOld
import Derived.Below
import Derived.SizedLaws
import Derived.Test.YtgmimneendnfgaaWOpen
import Derived.Test.YtgmimneendnfgaaWMay
import Derived.Test.YtgmimneendnfgaaWRefRec2
namespace Go.Proofs.Ytgmimneendnfgaa.wireRecords
open Go.ChangeShapes Go.WideShapes Go.ChangeAt Go.RowKit
set_option linter.unusedVariables false

theorem own : ownKnob Try.prog.godebug = none := by kernel_rfl
theorem laidOut : laidOutB Try.prog = true := by kernel_rfl

/-! ### The walk -/
theorem body_by {l : List Int} (h : By l) : By (getRecord l).2.1 := by
  rcases l with _ | ⟨k, r⟩
  · exact By.nil
  · rw [rec_cons]
    repeat' split
    all_goals first | exact By.nil | exact By.take (By.drop h _) _
set_option maxHeartbeats 16000000 in
set_option maxRecDepth 100000 in
theorem walk (a0 : Int) (v1 : Value) (v2 : Value) (w : World) (w0 : (Lit.int .i64 a0).wf = true) (w1 : InB w v1) (w2 : InB w v2) :
    Calls Try.prog 6 #[.int .i64 a0, v1, v2] w fun e w' => e = .returned (.bool true) ∧ Below w.heap.size w w' := by
  obtain ⟨a1, n1, c1, l, rfl, hB1, hC1, _⟩ := w1
  obtain ⟨a2, n2, c2, more, rfl, hB2, hC2, _⟩ := w2
  have HB1 := hide hB1
  have HB2 := hide hB2
  have HC1 := hide hC1
  have HC2 := hide hC2
  have Hby := hide hB1.2.2.1
  have Hbm := hide hB2.2.2.1
  have Hl1 := hide hB1.1
  have Hl2 := hide hB2.1
  have hby := body_by hB2.2.2.1
  clear hB1 hB2 hC1 hC2 w0
  rcases hg : getRecord more with ⟨K, B, M, X⟩
  rw [hg] at hby
  have hBby : Hid (By B) := hby
  have hgr := hide hg
  clear hg hby
  by_cases h1 : (2000 : Int) < (n1 : Int)
  · go_enter Try.func6, Try.ntmps6
    go_wp2_with fail
    refine (awake_any w).mono ?_
    rintro e w' ⟨rfl, hb⟩
    have Hb := hide hb
    clear hb
    go_wp2
    go_ret
    exact ⟨rfl, Hb.out⟩
  · have d1 : decide ((2000 : Int) < (n1 : Int)) = false := by simp; omega
    by_cases h2 : (3000 : Int) < (n2 : Int)
    · go_enter Try.func6, Try.ntmps6
      go_wp2_with fail
      refine (awake_any w).mono ?_
      rintro e w' ⟨rfl, hb⟩
      have Hb := hide hb
      clear hb
      go_wp2
      go_ret
      exact ⟨rfl, Hb.out⟩
    · have d2 : decide ((3000 : Int) < (n2 : Int)) = false := by simp; omega
      by_cases hmay : 1 ≤ a0 ∧ a0 ≤ 200 ∧ n1 ≤ 65536
      · have Hmay := hide (decide_eq_true hmay)
        have hk1 : 1 ≤ a0 := hmay.1
        have hk2 : a0 ≤ 200 := hmay.2.1
        have Hk3 := hide hmay.2.2
        have hbyR := hide (record_by (k := a0) (by omega) (by omega) Hby.out)
        clear hmay
        go_enter Try.func6, Try.ntmps6
        go_wp2_with fail
        refine (record_any a0 a1 n1 c1 l w HB1.out HC1.out.2.2 hk1 hk2 Hk3.out).mono ?_
        rintro e x1 ⟨v1, rfl, hown1, hb1⟩
        obtain ⟨p, c, rfl, hbs1, hcp1⟩ := hown1.open hbyR.out
        have HR1 := hide hbs1
        have HZ1 := hide hb1
        have HB11 := hide (HB1.out.below hb1)
        clear hown1 hbs1 hcp1 hb1 HB1
        go_wp2_with fail
        refine (may_any a0 a1 n1 c1 x1 true Hmay.out).mono ?_
        rintro e x2 ⟨rfl, rfl⟩
        go_wp2_with fail
        refine (refRecord_any a0 a1 n1 c1 l x2 HB11.out HC1.out.2.2 hk1 hk2 Hk3.out).mono ?_
        rintro e x3 ⟨v3, rfl, hown3, hb3⟩
        obtain ⟨p', c', rfl, hbs3, hcp3⟩ := hown3.open hbyR.out
        have HR3 := hide hbs3
        have HR13 := hide (HR1.out.below hb3)
        have HZ3 := hide (HZ1.out.trans (hb3.mono HZ1.out.size))
        clear hown3 hbs3 hcp3 hb3 HR1 HZ1 HB11
        go_wp2_with fail
        refine (bytes_as _ _ _ _ _ _ (record a0 l) (record a0 l) _ true (by simp) HR13.out HR3.out).mono ?_
        rintro e W1 ⟨rfl, hb5⟩
        have HZ1 := hide (HZ3.out.trans (hb5.mono HZ3.out.size))
        have HM1 := hide (HB2.out.below HZ1.out)
        clear hb5 HZ3 HR13 HR3
        go_wp2_with (at_builtin; refine Stop.at ?_)
        unfold Stop
        refine append_bytes rfl _ _ rfl W1.heap.size _ [] more rfl (Own.made W1 W1.heap.size _ rfl (Nat.le_refl _)) a2 _ c2 rfl HC2.out.2.2 (HM1.out.alloc _) (by have := Hl2.out; simp; omega) (by simp) ?_
        intro v2 W2 hown2 hgrow2 hbel2
        rw [List.nil_append] at hown2
        obtain ⟨p2, cp2, rfl, hbs2, hcp2⟩ := hown2.open Hbm.out
        rw [Hl2.out] at hbs2 hcp2 ⊢
        have HS2 := hide hbs2
        have HP2 := hide hcp2
        have HE2 := hide (hbel2 W1 ((Below.refl _ W1).alloc (Nat.le_refl _) _))
        have HM2 := hide (HM1.out.below HE2.out)
        have HZ2 := hide (HZ1.out.trans (HE2.out.mono HZ1.out.size))
        clear hown2 hgrow2 hbel2 hbs2 hcp2 HM1 HZ1 HE2
        go_wp2_with fail
        refine (getRec_any _ _ _ _ W2 HS2.out HP2.out).mono ?_
        rintro e W3 ⟨v3, rfl, hown3, hb3⟩
        rw [hgr.out] at hown3 ⊢
        obtain ⟨p3, cp3, rfl, hbs3, hcp3⟩ := hown3.open hBby.out
        have HS3 := hide hbs3
        have HM3 := hide (HM2.out.below hb3)
        have HZ3 := hide (HZ2.out.trans (hb3.mono HZ2.out.size))
        clear hown3 hbs3 hcp3 hb3 HM2 HZ2 HS2 HP2
        go_wp2_with fail
        refine (refGetRec_any _ _ _ _ W3 HM3.out HC2.out).mono ?_
        rintro e W4 ⟨v4, rfl, hown4, hb4⟩
        rw [hgr.out] at hown4 ⊢
        obtain ⟨p4, cp4, rfl, hbs4, hcp4⟩ := hown4.open hBby.out
        have HS4 := hide hbs4
        have HT4 := hide (HS3.out.below hb4)
        have HZ4 := hide (HZ3.out.trans (hb4.mono HZ3.out.size))
        clear hown4 hbs4 hcp4 hb4 HM3 HZ3 HS3
        go_wp2_with fail
        refine (bytes_as _ _ _ _ _ _ B B _ true (by simp) HT4.out HS4.out).mono ?_
        rintro e W5 ⟨rfl, hb5⟩
        have HZ5 := hide (HZ4.out.trans (hb5.mono HZ4.out.size))
        clear hb5 HZ4 HT4 HS4
        go_wp2_with fail
        refine (awake_any W5).mono ?_
        rintro e W6 ⟨rfl, hb6⟩
        have HZ6 := hide (HZ5.out.trans (hb6.mono HZ5.out.size))
        clear hb6 HZ5
        go_wp2
        go_ret
        exact ⟨rfl, HZ6.out⟩
      · have Hmay := hide (decide_eq_false hmay)
        have Harg : Hid (a0 < 1 ∨ 200 < a0 ∨ 65536 < n1) := by show a0 < 1 ∨ 200 < a0 ∨ 65536 < n1; omega
        clear hmay
        go_enter Try.func6, Try.ntmps6
        go_wp2_with fail
        refine (record_arg a0 a1 n1 c1 w Harg.out).mono ?_
        rintro e x1 ⟨rfl, rfl⟩
        go_wp2_with fail
        refine (may_any a0 a1 n1 c1 x1 false Hmay.out).mono ?_
        rintro e W1 ⟨rfl, rfl⟩
        have HZ1 := hide (Below.refl W1.heap.size W1)
        have HM1 := hide HB2.out
        clear HB1
        go_wp2_with (at_builtin; refine Stop.at ?_)
        unfold Stop
        refine append_bytes rfl _ _ rfl W1.heap.size _ [] more rfl (Own.made W1 W1.heap.size _ rfl (Nat.le_refl _)) a2 _ c2 rfl HC2.out.2.2 (HM1.out.alloc _) (by have := Hl2.out; simp; omega) (by simp) ?_
        intro v2 W2 hown2 hgrow2 hbel2
        rw [List.nil_append] at hown2
        obtain ⟨p2, cp2, rfl, hbs2, hcp2⟩ := hown2.open Hbm.out
        rw [Hl2.out] at hbs2 hcp2 ⊢
        have HS2 := hide hbs2
        have HP2 := hide hcp2
        have HE2 := hide (hbel2 W1 ((Below.refl _ W1).alloc (Nat.le_refl _) _))
        have HM2 := hide (HM1.out.below HE2.out)
        have HZ2 := hide (HZ1.out.trans (HE2.out.mono HZ1.out.size))
        clear hown2 hgrow2 hbel2 hbs2 hcp2 HM1 HZ1 HE2
        go_wp2_with fail
        refine (getRec_any _ _ _ _ W2 HS2.out HP2.out).mono ?_
        rintro e W3 ⟨v3, rfl, hown3, hb3⟩
        rw [hgr.out] at hown3 ⊢
        obtain ⟨p3, cp3, rfl, hbs3, hcp3⟩ := hown3.open hBby.out
        have HS3 := hide hbs3
        have HM3 := hide (HM2.out.below hb3)
        have HZ3 := hide (HZ2.out.trans (hb3.mono HZ2.out.size))
        clear hown3 hbs3 hcp3 hb3 HM2 HZ2 HS2 HP2
        go_wp2_with fail
        refine (refGetRec_any _ _ _ _ W3 HM3.out HC2.out).mono ?_
        rintro e W4 ⟨v4, rfl, hown4, hb4⟩
        rw [hgr.out] at hown4 ⊢
        obtain ⟨p4, cp4, rfl, hbs4, hcp4⟩ := hown4.open hBby.out
        have HS4 := hide hbs4
        have HT4 := hide (HS3.out.below hb4)
        have HZ4 := hide (HZ3.out.trans (hb4.mono HZ3.out.size))
        clear hown4 hbs4 hcp4 hb4 HM3 HZ3 HS3
        go_wp2_with fail
        refine (bytes_as _ _ _ _ _ _ B B _ true (by simp) HT4.out HS4.out).mono ?_
        rintro e W5 ⟨rfl, hb5⟩
        have HZ5 := hide (HZ4.out.trans (hb5.mono HZ4.out.size))
        clear hb5 HZ4 HT4 HS4
        go_wp2_with fail
        refine (awake_any W5).mono ?_
        rintro e W6 ⟨rfl, hb6⟩
        have HZ6 := hide (HZ5.out.trans (hb6.mono HZ5.out.size))
        clear hb6 HZ5
        go_wp2
        go_ret
        exact ⟨rfl, HZ6.out⟩

/-! ### The row's step -/
set_option maxRecDepth 100000 in
theorem lifted (os : Os) (started : os.Started) (H : Type) (enc : TypeId × Value → H) :
    ReturnsInHanded {} Try.checked os 6 .any (Rows.wireRecordsSpec.pre6 enc Try.prog Try.f6 Rows.wireRecordsRow.domain false) (Rows.wireRecordsSpec.post enc Try.prog Try.f6 false true false false) := by
  refine returnsInHanded_of_change_sized (C := Try.checked) own started (by kernel_rfl) Try.func6
    (ChangeSpec.witness6 (enc := enc) (C := Try.checked) false ⟨#[], #[.int .i64 0, .slice none 0 0, .slice none 0 0], []⟩ 8 (by kernel_rfl) (by kernel_rfl) (by kernel_rfl) (by kernel_rfl)) ?_
  intro W base args ds gs before hval0 hW hcnd hz0 _
  have hval : ∀ (j : Nat) t v, Try.f6.params[j]? = some t → args[j]? = some v → Value.okWide Try.prog W .any base t v := hval0
  have hz : (DataW.weightsEach Try.prog (Try.f6.params.toList ++ Rows.wireRecordsSpec.plain.varTypes Try.prog) (ds ++ gs)).all (· ≤ reachBytes) = true := hz0
  have hW' := hW
  obtain ⟨p, q, hA0, hV, rfl, hfz, hnd⟩ := hW
  have hA : DataW.TrodAll enc Try.prog W 0 (fun _ => true) true Try.f6.params.toList args.toList ds p := hA0
  rw [Try.params6] at hA hval hz
  obtain ⟨v0, vs0, d0, ds0, p0, q0, hargs, rfl, rfl, h0, r0⟩ := trodAll_cons hA
  obtain ⟨v1, vs1, d1, ds1, p1, q1, rfl, rfl, rfl, h1, r1⟩ := trodAll_cons r0
  obtain ⟨v2, vs2, d2, ds2, p2, q2, rfl, rfl, rfl, h2, r2⟩ := trodAll_cons r1
  obtain ⟨rfl, rfl, rfl⟩ := trodAll_nil r2
  obtain rfl : args = #[v0, v1, v2] := by cases args; simp_all
  obtain ⟨rfl, rfl⟩ := trodVars_none hV
  obtain ⟨a0, rfl, rfl, rfl, w0⟩ := open_int Try.underlying3 (hval 0 3 v0 rfl rfl) h0
  have k1 := h1
  have lt1 : ∀ x ∈ p1, x.block < W.heap.size := by obtain ⟨m, hm⟩ := k1; exact DataW.trod_lt m _ _ _ hm
  have w1 : InB W v1 := in_bytes (hval 1 27 v1 rfl rfl) h1 (fun n hn => by have := List.all_eq_true.1 hz n (DataW.weights_mem_each (j := 1) (t := 27) rfl rfl n hn); simpa using this)
  have k2 := h2
  have lt2 : ∀ x ∈ p2, x.block < W.heap.size := by obtain ⟨m, hm⟩ := k2; exact DataW.trod_lt m _ _ _ hm
  have w2 : InB W v2 := in_bytes (hval 2 27 v2 rfl rfl) h2 (fun n hn => by have := List.all_eq_true.1 hz n (DataW.weights_mem_each (j := 2) (t := 27) rfl rfl n hn); simpa using this)
  clear hA0 hval0 hz0
  refine (walk a0 v1 v2 W w0 w1 w2).mono fun e W' ⟨he, bel⟩ => ?_
  subst he
  exact ⟨_, rfl, _, _, _, [], _, [], hW', trodAll_mk1 (shut_bool Try.underlying4 _), (trodAll_cons_mk (shut_int Try.underlying3 w0) (trodAll_cons_mk (Below.trod laidOut (by kernel_rfl) (of_decide_eq_true (by kernel_rfl)) k1 bel lt1) (trodAll_cons_mk (Below.trod laidOut (by kernel_rfl) (of_decide_eq_true (by kernel_rfl)) k2 bel lt2) trodAll_mk0))), rfl, bel.frame _, fun h => by cases h⟩

theorem over : Rows.wireRecordsRow.holds Try.pinned (OpenSpec.ofChange Rows.wireRecordsSpec) :=
  OpenClaim.holds_of_wide 6 Try.f6 rfl rfl rfl rfl rfl rfl rfl ⟨rfl, rfl, rfl, rfl, rfl⟩ rfl rfl rfl rfl rfl (by kernel_rfl) Try.func6 (by kernel_rfl)
    (of_decide_eq_true (by kernel_rfl)) (by unfold Func.isWrapper; first | (rw [if_pos (by decide +kernel)]; kernel_rfl) | (rw [if_neg (by decide +kernel)]; exact ⟨rfl, rfl⟩))
    (fun os started H enc _ => lifted os started H enc)
end Go.Proofs.Ytgmimneendnfgaa.wireRecords
namespace Go.Proofs.Ytgmimneendnfgaa
theorem wireRecords_holds : Rows.WireRecordsSaid := wireRecords.over
end Go.Proofs.Ytgmimneendnfgaa
