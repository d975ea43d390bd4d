/- For every number and every two bytes: the statement 'WireCuts' returns true, and its arguments read behind the call as they read before. No condition. -/
import Derived.Test.YtgmimneendnfgaaRows
import Derived.WalkKit
import Derived.ProofKit
import Derived.OpenShut
import Derived.ShutString
import Derived.ChangeOld
import Derived.Below
import Derived.SizedLaws
import Derived.Test.YtgmimneendnfgaaWOpen
import Derived.Test.YtgmimneendnfgaaWMay
namespace Go.Proofs.Ytgmimneendnfgaa.wireCuts
open Go.ChangeShapes Go.WideShapes Go.ChangeAt Go.RowKit
set_option linter.unusedVariables false

theorem own : ownKnob Try.prog.godebug = none := by kernel_rfl
theorem laidOut : laidOutB Try.prog = true := by kernel_rfl

/-! ### The walk -/
set_option maxHeartbeats 16000000 in
set_option maxRecDepth 100000 in
theorem walk (a0 : Int) (v1 : Value) (v2 : Value) (w : World) (w0 : (Lit.int .i64 a0).wf = true) (w1 : InB w v1) (w2 : InB w v2) :
    Calls Try.prog 7 #[.int .i64 a0, v1, v2] w fun e w' => e = .returned (.bool true) ∧ Below w.heap.size w w' := by
  obtain ⟨a1, n1, c1, l, rfl, hB1, hC1, _⟩ := w1
  obtain ⟨a2, n2, c2, more, rfl, hB2, hC2, _⟩ := w2
  have HB1 := hide hB1
  have HB2 := hide hB2
  have HC1 := hide hC1.2.2
  have HC2 := hide hC2.2.2
  have Hby := hide hB1.2.2.1
  have Hbm := hide hB2.2.2.1
  have Hl1 := hide hB1.1
  have Hl2 := hide hB2.1
  clear hB1 hB2 hC1 hC2 w0
  by_cases h1 : (2000 : Int) < (n1 : Int)
  · go_enter Try.func7, Try.ntmps7
    go_wp2_with fail
    refine (awake_any w).mono ?_
    rintro e w' ⟨rfl, hb⟩
    have Hb := hide hb
    clear hb
    go_wp2
    go_ret
    exact ⟨rfl, Hb.out⟩
  · have d1 : decide ((2000 : Int) < (n1 : Int)) = false := by simp; omega
    by_cases h2 : (500 : Int) < (n2 : Int)
    · go_enter Try.func7, Try.ntmps7
      go_wp2_with fail
      refine (awake_any w).mono ?_
      rintro e w' ⟨rfl, hb⟩
      have Hb := hide hb
      clear hb
      go_wp2
      go_ret
      exact ⟨rfl, Hb.out⟩
    · have d2 : decide ((500 : Int) < (n2 : Int)) = false := by simp; omega
      by_cases hmay : 1 ≤ a0 ∧ a0 ≤ 200 ∧ n1 ≤ 65536
      · have Hmay := hide (decide_eq_true hmay)
        have hk1 : 1 ≤ a0 := hmay.1
        have hk2 : a0 ≤ 200 := hmay.2.1
        have hk3 : n1 ≤ 65536 := hmay.2.2
        have Hk3 := hide hk3
        have hlt : Hid (l.length ≤ 65536) := by show l.length ≤ 65536; rw [Hl1.out]; exact hk3
        have hRl := record_len a0 l
        have hnl := num_len (l.length : Int)
        have hn8 := nb_le (l.length : Int)
        obtain ⟨nL, hnL⟩ : ∃ nL, nL = (record a0 l).length := ⟨_, rfl⟩
        have hLbig : (nL : Int) ≤ 3000 := by have := Hl1.out; omega
        have hLpos : (1 : Int) ≤ (nL : Int) := by omega
        have HnL := hide hnL
        have hgot := hide (rec_got a0 l more hk1 hk2 hlt.out Hby.out Hbm.out)
        have hpart := hide (fun t (ht : t < nL) => rec_part a0 l t hk1 hk2 hlt.out Hby.out (by rw [← hnL]; exact ht))
        have hbyR := hide (record_by (k := a0) (by omega) (by omega) Hby.out)
        clear hmay hk3 hRl hnl hn8 hnL
        go_enter Try.func7, Try.ntmps7
        go_wp2_with fail
        refine (may_any a0 a1 n1 c1 w true Hmay.out).mono ?_
        rintro e w' ⟨rfl, rfl⟩
        go_wp2_with fail
        refine (record_any a0 a1 n1 c1 l w' HB1.out HC1.out hk1 hk2 Hk3.out).mono ?_
        rintro e w1 ⟨v1, rfl, hown1, hb1⟩
        obtain ⟨p, c, rfl, hbs1, hcp1⟩ := hown1.open hbyR.out
        rw [← HnL.out] at hbs1 hcp1 ⊢
        have HR1 := hide hbs1
        have HRc := hide hcp1
        have HZ1 := hide hb1
        have HM1 := hide (HB2.out.below hb1)
        have HL1 := hide (HB1.out.below hb1)
        have hcL : (nL : Int) ≤ (c : Int) := by have := hcp1.1; omega
        clear hown1 hbs1 hcp1 hb1 HB1 HB2
        go_wp2_with (at_builtin; refine Stop.at ?_)
        unfold Stop
        refine append_bytes rfl _ _ rfl w1.heap.size _ [] (record a0 l) rfl (Own.made w1 w1.heap.size _ rfl (Nat.le_refl _)) p _ c rfl HRc.out.2.2 (HR1.out.alloc _) (by have := HnL.out; simp; omega) (by simp) ?_
        intro v2 w2 hown2 hgrow2 hbel2
        rw [List.nil_append] at hown2
        have Hown2 := hide hown2
        have HE2 := hide (hbel2 w1 ((Below.refl _ w1).alloc (Nat.le_refl _) _))
        clear hown2 hgrow2 hbel2
        go_wp2_with (at_builtin; refine Stop.at ?_)
        unfold Stop
        refine append_bytes rfl _ _ rfl w1.heap.size _ (record a0 l) more rfl Hown2.out a2 _ c2 rfl HC2.out (HM1.out.below HE2.out) (by have := HnL.out; have := Hl2.out; omega) HE2.out.size ?_
        intro v3 w3 hown3 hgrow3 hbel3
        obtain ⟨p3, c3, rfl, hbs3, hcp3⟩ := hown3.open (hbyR.out.append Hbm.out)
        have HS3 := hide hbs3
        have HC3 := hide hcp3
        have HE3 := hide (hbel3 w1 HE2.out)
        obtain ⟨n3, hn3⟩ : ∃ n3, n3 = (record a0 l ++ more).length := ⟨_, rfl⟩
        rw [← hn3] at HS3 HC3 ⊢
        clear hn3 hown3 hgrow3 hbel3 hbs3 hcp3 HE2 Hown2
        go_wp2_with fail
        refine (getRec_any _ _ _ _ w3 HS3.out HC3.out).mono ?_
        rintro e w4 ⟨v4, rfl, hown4, hb4⟩
        rw [hgot.out] at hown4 ⊢
        simp only [← HnL.out]
        obtain ⟨p4, c4, rfl, hbs4, hcp4⟩ := hown4.open Hby.out
        have HT4 := hide hbs4
        have HE4 := hide (HE3.out.trans (hb4.mono HE3.out.size))
        have HL4 := hide (HL1.out.below HE4.out)
        clear hown4 hb4 hbs4 hcp4 HE3 HS3 HC3
        go_wp2_with fail
        refine (bytes_as _ _ _ _ _ _ l l _ true (by simp) HT4.out HL4.out).mono ?_
        rintro e w5 ⟨rfl, hb5⟩
        have HE5 := hide (HE4.out.trans (hb5.mono HE4.out.size))
        clear hb5 HE4 HT4 HL4
        go_wp2
        go_loopw [13] (fun i wr => ∃ j : Nat, j ≤ 60 ∧ i = .int .i64 (j : Int) ∧ Hid (Below w1.heap.size w1 wr)) (fun i _ => 60 - (intOf i).toNat)
        case atStart => exact ⟨0, by omega, rfl, HE5.out⟩
        case round =>
          obtain ⟨j, hj, rfl, hbel⟩ := hrel
          by_cases e1 : (j : Int) < (nL : Int)
          · by_cases e2 : (j : Int) < 60
            · by_cases e3 : (30 : Int) ≤ (j : Int)
              · by_cases e4 : (nL : Int) - 1 - ((j : Int) - 30) < 0
                · go_wp2
                  go_roundw
                  case rel => exact ⟨j + 1, by omega, by go_num, hbel⟩
                  case measure => simp [intOf]; omega
                · obtain ⟨t, ht⟩ : ∃ t : Nat, (nL : Int) - 1 - ((j : Int) - 30) = (t : Int) := ⟨((nL : Int) - 1 - ((j : Int) - 30)).toNat, (Int.toNat_of_nonneg (by omega)).symm⟩
                  have htL : t < nL := by omega
                  have htc : (t : Int) ≤ (c : Int) := by omega
                  have ht0 : ¬ (t : Int) < 0 := by omega
                  have hbt := hide ((HR1.out.below hbel.out).head t (by omega))
                  have hct := hide (HRc.out.head t (by omega))
                  have hpt := hide (hpart.out t htL)
                  have hsz := hbel.out.size
                  clear htL e4
                  go_wp2_with fail
                  refine (getRec_any _ _ _ _ wr hbt.out hct.out).mono ?_
                  rintro e w6 ⟨v6, rfl, hown6, hb6⟩
                  rw [hpt.out]
                  have hbel2 := hide (hbel.out.trans (hb6.mono hsz))
                  clear hown6 hb6
                  go_wp2
                  go_roundw
                  case rel => exact ⟨j + 1, by omega, by go_num, hbel2⟩
                  case measure => simp [intOf]; omega
              · have htc : (j : Int) ≤ (c : Int) := by omega
                have hbt := hide ((HR1.out.below hbel.out).head j (by omega))
                have hct := hide (HRc.out.head j (by omega))
                have hpt := hide (hpart.out j (by omega))
                have hsz := hbel.out.size
                go_wp2_with fail
                refine (getRec_any _ _ _ _ wr hbt.out hct.out).mono ?_
                rintro e w6 ⟨v6, rfl, hown6, hb6⟩
                rw [hpt.out]
                have hbel2 := hide (hbel.out.trans (hb6.mono hsz))
                clear hown6 hb6
                go_wp2
                go_roundw
                case rel => exact ⟨j + 1, by omega, by go_num, hbel2⟩
                case measure => simp [intOf]; omega
            · have d4 : decide ((j : Int) < 60) = false := by simp; omega
              go_wp2_with fail
              refine (awake_any _).mono ?_
              rintro e w7 ⟨rfl, hb7⟩
              have HZ7 := hide (HZ1.out.trans ((hbel.out.trans (hb7.mono hbel.out.size)).mono HZ1.out.size))
              clear hb7
              go_wp2
              go_ret
              exact ⟨rfl, HZ7.out⟩
          · have d3 : decide ((j : Int) < (nL : Int)) = false := by simp; omega
            go_wp2_with fail
            refine (awake_any _).mono ?_
            rintro e w7 ⟨rfl, hb7⟩
            have HZ7 := hide (HZ1.out.trans ((hbel.out.trans (hb7.mono hbel.out.size)).mono HZ1.out.size))
            clear hb7
            go_wp2
            go_ret
            exact ⟨rfl, HZ7.out⟩
      · have Hmay := hide (decide_eq_false hmay)
        clear hmay
        go_enter Try.func7, Try.ntmps7
        go_wp2_with fail
        refine (may_any a0 a1 n1 c1 w false Hmay.out).mono ?_
        rintro e w' ⟨rfl, rfl⟩
        go_wp2_with fail
        refine (awake_any w').mono ?_
        rintro e w2 ⟨rfl, hb⟩
        have Hb := hide hb
        clear hb
        go_wp2
        go_ret
        exact ⟨rfl, Hb.out⟩

/-! ### The row's step -/
set_option maxRecDepth 100000 in
theorem lifted (os : Os) (started : os.Started) (H : Type) (enc : TypeId × Value → H) :
    ReturnsInHanded {} Try.checked os 7 .any (Rows.wireCutsSpec.pre6 enc Try.prog Try.f7 Rows.wireCutsRow.domain false) (Rows.wireCutsSpec.post enc Try.prog Try.f7 false true false false) := by
  refine returnsInHanded_of_change_sized (C := Try.checked) own started (by kernel_rfl) Try.func7
    (ChangeSpec.witness6 (enc := enc) (C := Try.checked) false ⟨#[], #[.int .i64 0, .slice none 0 0, .slice none 0 0], []⟩ 8 (by kernel_rfl) (by kernel_rfl) (by kernel_rfl) (by kernel_rfl)) ?_
  intro W base args ds gs before hval0 hW hcnd hz0 _
  have hval : ∀ (j : Nat) t v, Try.f7.params[j]? = some t → args[j]? = some v → Value.okWide Try.prog W .any base t v := hval0
  have hz : (DataW.weightsEach Try.prog (Try.f7.params.toList ++ Rows.wireCutsSpec.plain.varTypes Try.prog) (ds ++ gs)).all (· ≤ reachBytes) = true := hz0
  have hW' := hW
  obtain ⟨p, q, hA0, hV, rfl, hfz, hnd⟩ := hW
  have hA : DataW.TrodAll enc Try.prog W 0 (fun _ => true) true Try.f7.params.toList args.toList ds p := hA0
  rw [Try.params7] at hA hval hz
  obtain ⟨v0, vs0, d0, ds0, p0, q0, hargs, rfl, rfl, h0, r0⟩ := trodAll_cons hA
  obtain ⟨v1, vs1, d1, ds1, p1, q1, rfl, rfl, rfl, h1, r1⟩ := trodAll_cons r0
  obtain ⟨v2, vs2, d2, ds2, p2, q2, rfl, rfl, rfl, h2, r2⟩ := trodAll_cons r1
  obtain ⟨rfl, rfl, rfl⟩ := trodAll_nil r2
  obtain rfl : args = #[v0, v1, v2] := by cases args; simp_all
  obtain ⟨rfl, rfl⟩ := trodVars_none hV
  obtain ⟨a0, rfl, rfl, rfl, w0⟩ := open_int Try.underlying3 (hval 0 3 v0 rfl rfl) h0
  have k1 := h1
  have lt1 : ∀ x ∈ p1, x.block < W.heap.size := by obtain ⟨m, hm⟩ := k1; exact DataW.trod_lt m _ _ _ hm
  have w1 : InB W v1 := in_bytes (hval 1 27 v1 rfl rfl) h1 (fun n hn => by have := List.all_eq_true.1 hz n (DataW.weights_mem_each (j := 1) (t := 27) rfl rfl n hn); simpa using this)
  have k2 := h2
  have lt2 : ∀ x ∈ p2, x.block < W.heap.size := by obtain ⟨m, hm⟩ := k2; exact DataW.trod_lt m _ _ _ hm
  have w2 : InB W v2 := in_bytes (hval 2 27 v2 rfl rfl) h2 (fun n hn => by have := List.all_eq_true.1 hz n (DataW.weights_mem_each (j := 2) (t := 27) rfl rfl n hn); simpa using this)
  clear hA0 hval0 hz0
  refine (walk a0 v1 v2 W w0 w1 w2).mono fun e W' ⟨he, bel⟩ => ?_
  subst he
  exact ⟨_, rfl, _, _, _, [], _, [], hW', trodAll_mk1 (shut_bool Try.underlying4 _), (trodAll_cons_mk (shut_int Try.underlying3 w0) (trodAll_cons_mk (Below.trod laidOut (by kernel_rfl) (of_decide_eq_true (by kernel_rfl)) k1 bel lt1) (trodAll_cons_mk (Below.trod laidOut (by kernel_rfl) (of_decide_eq_true (by kernel_rfl)) k2 bel lt2) trodAll_mk0))), rfl, bel.frame _, fun h => by cases h⟩

theorem over : Rows.wireCutsRow.holds Try.pinned (OpenSpec.ofChange Rows.wireCutsSpec) :=
  OpenClaim.holds_of_wide 7 Try.f7 rfl rfl rfl rfl rfl rfl rfl ⟨rfl, rfl, rfl, rfl, rfl⟩ rfl rfl rfl rfl rfl (by kernel_rfl) Try.func7 (by kernel_rfl)
    (of_decide_eq_true (by kernel_rfl)) (by unfold Func.isWrapper; first | (rw [if_pos (by decide +kernel)]; kernel_rfl) | (rw [if_neg (by decide +kernel)]; exact ⟨rfl, rfl⟩))
    (fun os started H enc _ => lifted os started H enc)
end Go.Proofs.Ytgmimneendnfgaa.wireCuts
namespace Go.Proofs.Ytgmimneendnfgaa
theorem wireCuts_holds : Rows.WireCutsSaid := wireCuts.over
end Go.Proofs.Ytgmimneendnfgaa
