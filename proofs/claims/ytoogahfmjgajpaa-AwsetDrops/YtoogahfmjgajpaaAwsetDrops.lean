/- Behind a drop that knows all adds of a key it is not there; behind an add it is; other keys are as they were. -/
import Derived.Test.YtoogahfmjgajpaaRows
import Derived.WalkKit
import Derived.ProofKit
import Derived.OpenShut
import Derived.ShutString
import Derived.ChangeOld
import Derived.Below
import Derived.SizedLaws
import Derived.Test.YtoogahfmjgajpaaC2
namespace Go.Proofs.Ytoogahfmjgajpaa.awsetDrops
open Go.ChangeShapes Go.WideShapes Go.ChangeAt Go.RowKit
set_option linter.unusedVariables false

theorem own : ownKnob Try.prog.godebug = none := by kernel_rfl
theorem laidOut : laidOutB Try.prog = true := by kernel_rfl

theorem walk (v0 : Value) (v1 : Value) (v2 : Value) (w : World) (w0 : InNs w v0) (w1 : InDd w v1) (w2 : InS w v2) :
    Calls Try.prog 6 #[v0, v1, v2] w fun e w' => e = .returned (.bool true) ∧ Below w.heap.size w w' := by
  obtain ⟨a, n, cap, s, rfl, hA, hcp⟩ := w0
  obtain ⟨t, r, q, pa, na, ca, c, rfl, hP, _⟩ := w1
  obtain ⟨o, rfl⟩ := w2
  have HV := hide hA
  have HCP := hide hcp
  have HP := hide hP
  have BB := hide (bel1 w (.cells #[.string t, .int .i64 r, .int .i64 q, .slice pa na ca] 28))
  have b0 := cell_new w #[.string t, .int .i64 r, .int .i64 q, .slice pa na ca] 28 _ rfl 0 _ rfl
  have b1 := cell_new w #[.string t, .int .i64 r, .int .i64 q, .slice pa na ca] 28 _ rfl 1 _ rfl
  have b2 := cell_new w #[.string t, .int .i64 r, .int .i64 q, .slice pa na ca] 28 _ rfl 2 _ rfl
  have b3 := cell_new w #[.string t, .int .i64 r, .int .i64 q, .slice pa na ca] 28 _ rfl 3 _ rfl
  have HLEN := hide hA.len
  clear hA hcp hP
  go_enter Try.func6, Try.ntmps6
  go_wp2_with (go_at_call 7; refine (light8 a n cap s _ (HV.out.below BB.out)).mono ?_; rintro e w1 ⟨bl, rfl, hl, rfl⟩; refine Stop.at ?_)
  unfold Stop
  generalize hwb : w.alloc (.cells #[.string t, .int .i64 r, .int .i64 q, .slice pa na ca] 28) = wb at *
  clear hwb
  cases bl
  · clear hl
    go_wp2_with (go_at_call 8; refine (awake8 _).mono ?_; rintro e wz ⟨rfl, hb⟩)
    go_ret
    exact ⟨rfl, bel_next BB.out hb⟩
  · obtain ⟨hn30, hfew⟩ := hl rfl
    have HFEW := hide hfew
    have HFW : Hid (∀ x ∈ s, x.2.1.length ≤ 100000) := fun x hx => Nat.le_trans (hfew x hx).2.1 (by decide)
    clear hl hfew
    by_cases h1 : (t.size : Int) ≤ 100
    · by_cases h2 : (na : Int) ≤ 20
      · by_cases h3 : (o.size : Int) ≤ 100
        · rcases hx : (mayS s && mayK t && mayD (r, q) && mayC c) with _ | _
          · have HNO := hide hx
            clear hx
            go_wp2_with (first | (go_at_call 9; refine (Add_bad a n cap s t r q pa na ca c _ (HV.out.below BB.out) HCP.out (HP.out.below BB.out) HNO.out).mono ?_; rintro e w2 ⟨rfl, hb⟩; replace BB := hide (bel_next BB.out hb); try replace b0 := bcell hb b0; try replace b1 := bcell hb b1; try replace b2 := bcell hb b2; try replace b3 := bcell hb b3; clear hb) | (go_at_call 8; refine (awake8 _).mono ?_; rintro e wz ⟨rfl, hb⟩))
            go_ret
            exact ⟨rfl, bel_next BB.out hb⟩
          · simp only [Bool.and_eq_true] at hx
            obtain ⟨⟨⟨hm1, hm2⟩, hm3⟩, hm4⟩ := hx
            have HM1 := hide hm1
            have HM2 := hide hm2
            have HM3 := hide hm3
            have HM4 := hide hm4
            have HF := hide (drop_facts hm1 hm2 hm3 c (by rw [HLEN.out]; exact hn30) (fun x hx => (HFEW.out x hx).2.1))
            clear hm1 hm2 hm3 hm4
            have HD : Hid (∀ (p pa : Option Addr) (n cap na ca : Nat) (W : World), NSS W p n (addS s t (r, q) c) → CP p n cap → NS W pa na allC → Calls Try.prog 10 #[.slice p n cap, .string t, .slice pa na ca] W fun e w' => ∃ p cp, e = .returned (.tuple #[.slice p (dropS (addS s t (r, q) c) t allC).length cp, .int .i64 0]) ∧ NSS w' p (dropS (addS s t (r, q) c) t allC).length (dropS (addS s t (r, q) c) t allC) ∧ CP p (dropS (addS s t (r, q) c) t allC).length cp ∧ Below W.heap.size W w') := fun p pa n cap na ca W g1 g2 g3 => Drop_good p n cap _ t pa na ca allC W g1 g2 g3 HF.out.a HM2.out (by decide) HF.out.fa
            have HAD : Hid (∀ W, NSS W a n s → CP a n cap → NS W pa na c → Calls Try.prog 9 #[.slice a n cap, .string t, .agg #[.int .i64 r, .int .i64 q], .slice pa na ca] W fun e w' => ∃ p cp, e = .returned (.tuple #[.slice p (addS s t (r, q) c).length cp, .int .i64 0]) ∧ NSS w' p (addS s t (r, q) c).length (addS s t (r, q) c) ∧ CP p (addS s t (r, q) c).length cp ∧ Below W.heap.size W w') := fun W g1 g2 g3 => Add_good a n cap s t r q pa na ca c W g1 g2 g3 HM1.out HM2.out HM3.out HM4.out HFW.out (by omega)
            generalize addS s t (r, q) c = A at *
            generalize dropS A t allC = D at *
            generalize A.length = nA at *
            generalize D.length = nD at *
            have H1 : Hid ((mayS A && decide (getS A t ≠ [])) = true) := by unfold Hid; rw [HF.out.a, decide_eq_true HF.out.at_]; rfl
            have H2 : Hid ((mayS D && decide (getS D t ≠ [])) = false) := by unfold Hid; rw [HF.out.dt]; simp
            go_upto_region 6 with (go_at_call 9; refine (HAD.out _ (HV.out.below BB.out) HCP.out (HP.out.below BB.out)).mono ?_; rintro e w2 ⟨p2, c2, rfl, hn2, hc2, hb⟩; have HN2 := hide hn2; have HC2 := hide hc2; replace BB := hide (bel_next BB.out hb); try replace b0 := bcell hb b0; try replace b1 := bcell hb b1; try replace b2 := bcell hb b2; try replace b3 := bcell hb b3; clear hb; clear hn2 hc2 HAD)
            have hb := bel1 w2 (.cells #[.int .i64 1048576, .int .i64 1048576, .int .i64 1048576, .int .i64 1048576, .int .i64 1048576] 3)
            have HNA := hide (NS.new w2 _ rfl allC #[.int .i64 1048576, .int .i64 1048576, .int .i64 1048576, .int .i64 1048576, .int .i64 1048576] (by simp [allC]) 3 (0, 0) 5 rfl (by decide))
            replace HN2 := hide (HN2.out.below hb)
            replace BB := hide (bel_next BB.out hb)
            try replace b0 := bcell hb b0
            try replace b1 := bcell hb b1
            try replace b2 := bcell hb b2
            try replace b3 := bcell hb b3
            clear hb
            go_upto_region 8 with (go_at_call 10; refine (HD.out p2 _ nA c2 _ _ _ HN2.out HC2.out HNA.out).mono ?_; rintro e w3 ⟨p3, c3, rfl, hn3, hc3, hb⟩; have HN3 := hide hn3; replace HN2 := hide (HN2.out.below hb); replace BB := hide (bel_next BB.out hb); try replace b0 := bcell hb b0; try replace b1 := bcell hb b1; try replace b2 := bcell hb b2; try replace b3 := bcell hb b3; clear hb; clear hn3 hc3 HD)
            go_wp2_with (go_at_call 21; refine (Has_any p2 nA c2 A t _ HN2.out).mono ?_; rintro e w4 ⟨rfl, hb⟩; rw [H1.out]; replace HN3 := hide (HN3.out.below hb); replace BB := hide (bel_next BB.out hb); try replace b0 := bcell hb b0; try replace b1 := bcell hb b1; try replace b2 := bcell hb b2; try replace b3 := bcell hb b3; clear hb; refine Stop.at ?_)
            unfold Stop
            by_cases ho : o = t
            · have hoe : (o.toList == t.toList) = true := by rw [eqK, decide_eq_true ho]
              clear ho
              go_wp2_with (go_at_call 21; refine (Has_any p3 nD c3 D t _ HN3.out).mono ?_; rintro e w5 ⟨rfl, hb⟩; rw [H2.out]; replace HN3 := hide (HN3.out.below hb); replace BB := hide (bel_next BB.out hb); try replace b0 := bcell hb b0; try replace b1 := bcell hb b1; try replace b2 := bcell hb b2; try replace b3 := bcell hb b3; clear hb; refine Stop.at ?_)
              unfold Stop
              go_wp2_with (go_at_call 8; refine (awake8 _).mono ?_; rintro e wz ⟨rfl, hb⟩)
              go_ret
              exact ⟨rfl, bel_next BB.out hb⟩
            · have hoe : (o.toList == t.toList) = false := by rw [eqK, decide_eq_false ho]
              obtain ⟨bo, hbo⟩ : ∃ b, (mayS s && decide (getS s o ≠ [])) = b := ⟨_, rfl⟩
              have H3 : Hid ((mayS D && decide (getS D o ≠ [])) = bo) := by unfold Hid; rw [HF.out.d, HF.out.oth o ho, ← hbo, HM1.out]
              have HHS : Hid (∀ W, NSS W a n s → Calls Try.prog 21 #[.slice a n cap, .string o] W fun e w' => e = .returned (.bool bo) ∧ Below W.heap.size W w') := fun W h => by rw [← hbo]; exact Has_any a n cap s o W h
              clear ho hbo
              go_wp2_with (go_at_call 21; refine (Has_any p3 nD c3 D t _ HN3.out).mono ?_; rintro e w5 ⟨rfl, hb⟩; rw [H2.out]; replace HN3 := hide (HN3.out.below hb); replace BB := hide (bel_next BB.out hb); try replace b0 := bcell hb b0; try replace b1 := bcell hb b1; try replace b2 := bcell hb b2; try replace b3 := bcell hb b3; clear hb; refine Stop.at ?_)
              unfold Stop
              go_wp2_with (go_at_call 21; refine (Has_any p3 nD c3 D o _ HN3.out).mono ?_; rintro e w6 ⟨rfl, hb⟩; rw [H3.out]; replace HN3 := hide (HN3.out.below hb); replace BB := hide (bel_next BB.out hb); try replace b0 := bcell hb b0; try replace b1 := bcell hb b1; try replace b2 := bcell hb b2; try replace b3 := bcell hb b3; clear hb; refine Stop.at ?_)
              unfold Stop
              cases bo
              all_goals (go_wp2_with (first | (go_at_call 21; refine (HHS.out _ (HV.out.below BB.out)).mono ?_; rintro e w7 ⟨rfl, hb⟩; replace BB := hide (bel_next BB.out hb); try replace b0 := bcell hb b0; try replace b1 := bcell hb b1; try replace b2 := bcell hb b2; try replace b3 := bcell hb b3; clear hb) | (go_at_call 8; refine (awake8 _).mono ?_; rintro e wz ⟨rfl, hb⟩)))
              all_goals (go_ret; exact ⟨rfl, bel_next BB.out hb⟩)
        · go_wp2_with (go_at_call 8; refine (awake8 _).mono ?_; rintro e wz ⟨rfl, hb⟩)
          go_ret
          exact ⟨rfl, bel_next BB.out hb⟩
      · go_wp2_with (go_at_call 8; refine (awake8 _).mono ?_; rintro e wz ⟨rfl, hb⟩)
        go_ret
        exact ⟨rfl, bel_next BB.out hb⟩
    · go_wp2_with (go_at_call 8; refine (awake8 _).mono ?_; rintro e wz ⟨rfl, hb⟩)
      go_ret
      exact ⟨rfl, bel_next BB.out hb⟩

/-! ### The row's step -/
set_option maxRecDepth 100000 in
theorem lifted (os : Os) (started : os.Started) (H : Type) (enc : TypeId × Value → H) :
    ReturnsInHanded {} Try.checked os 6 .any (Rows.awsetDropsSpec.pre6 enc Try.prog Try.f6 Rows.awsetDropsRow.domain false) (Rows.awsetDropsSpec.post enc Try.prog Try.f6 false true false false) := by
  refine returnsInHanded_of_change_sized (C := Try.checked) own started (by kernel_rfl) Try.func6
    (ChangeSpec.witness6 (enc := enc) (C := Try.checked) false ⟨#[], #[.slice none 0 0, .agg #[.string ⟨#[]⟩, .int .i64 0, .int .i64 0, .slice none 0 0], .string ⟨#[]⟩], []⟩ 8 (by kernel_rfl) (by kernel_rfl) (by kernel_rfl) (by kernel_rfl)) ?_
  intro W base args ds gs before hval0 hW hcnd hz0 _
  have hval : ∀ (j : Nat) t v, Try.f6.params[j]? = some t → args[j]? = some v → Value.okWide Try.prog W .any base t v := hval0
  have hz : (DataW.weightsEach Try.prog (Try.f6.params.toList ++ Rows.awsetDropsSpec.plain.varTypes Try.prog) (ds ++ gs)).all (· ≤ reachBytes) = true := hz0
  have hW' := hW
  obtain ⟨p, q, hA0, hV, rfl, hfz, hnd⟩ := hW
  have hA : DataW.TrodAll enc Try.prog W 0 (fun _ => true) true Try.f6.params.toList args.toList ds p := hA0
  rw [Try.params6] at hA hval hz
  obtain ⟨v0, vs0, d0, ds0, p0, q0, hargs, rfl, rfl, h0, r0⟩ := trodAll_cons hA
  obtain ⟨v1, vs1, d1, ds1, p1, q1, rfl, rfl, rfl, h1, r1⟩ := trodAll_cons r0
  obtain ⟨v2, vs2, d2, ds2, p2, q2, rfl, rfl, rfl, h2, r2⟩ := trodAll_cons r1
  obtain ⟨rfl, rfl, rfl⟩ := trodAll_nil r2
  obtain rfl : args = #[v0, v1, v2] := by cases args; simp_all
  obtain ⟨rfl, rfl⟩ := trodVars_none hV
  have k0 := h0
  have lt0 : ∀ x ∈ p0, x.block < W.heap.size := by obtain ⟨m, hm⟩ := k0; exact DataW.trod_lt m _ _ _ hm
  have w0 : InNs W v0 := in_ents (hval 0 22 v0 rfl rfl) h0 (fun n hn => by have := List.all_eq_true.1 hz n (DataW.weights_mem_each (j := 0) (t := 22) rfl rfl n hn); simpa using this)
  have k1 := h1
  have lt1 : ∀ x ∈ p1, x.block < W.heap.size := by obtain ⟨m, hm⟩ := k1; exact DataW.trod_lt m _ _ _ hm
  have w1 : InDd W v1 := in_deed (hval 1 28 v1 rfl rfl) h1 (fun n hn => by have := List.all_eq_true.1 hz n (DataW.weights_mem_each (j := 1) (t := 28) rfl rfl n hn); simpa using this)
  have k2 := h2
  have lt2 : ∀ x ∈ p2, x.block < W.heap.size := by obtain ⟨m, hm⟩ := k2; exact DataW.trod_lt m _ _ _ hm
  have w2 : InS W v2 := in_str8 (hval 2 9 v2 rfl rfl) h2 (fun n hn => by have := List.all_eq_true.1 hz n (DataW.weights_mem_each (j := 2) (t := 9) rfl rfl n hn); simpa using this)
  clear hA0 hval0 hz0
  refine (walk v0 v1 v2 W w0 w1 w2).mono fun e W' ⟨he, bel⟩ => ?_
  subst he
  exact ⟨_, rfl, _, _, _, [], _, [], hW', trodAll_mk1 (shut_bool Try.underlying4 _), (trodAll_cons_mk (Below.trod laidOut (by kernel_rfl) (of_decide_eq_true (by kernel_rfl)) k0 bel lt0) (trodAll_cons_mk (Below.trod laidOut (by kernel_rfl) (of_decide_eq_true (by kernel_rfl)) k1 bel lt1) (trodAll_cons_mk (Below.trod laidOut (by kernel_rfl) (of_decide_eq_true (by kernel_rfl)) k2 bel lt2) trodAll_mk0))), rfl, bel.frame _, fun h => by cases h⟩

theorem over : Rows.awsetDropsRow.holds Try.pinned (OpenSpec.ofChange Rows.awsetDropsSpec) :=
  OpenClaim.holds_of_wide 6 Try.f6 rfl rfl rfl rfl rfl rfl rfl ⟨rfl, rfl, rfl, rfl, rfl⟩ rfl rfl rfl rfl rfl (by kernel_rfl) Try.func6 (by kernel_rfl)
    (of_decide_eq_true (by kernel_rfl)) (by unfold Func.isWrapper; first | (rw [if_pos (by decide +kernel)]; kernel_rfl) | (rw [if_neg (by decide +kernel)]; exact ⟨rfl, rfl⟩))
    (fun os started H enc _ => lifted os started H enc)
end Go.Proofs.Ytoogahfmjgajpaa.awsetDrops
namespace Go.Proofs.Ytoogahfmjgajpaa
theorem awsetDrops_holds : Rows.AwsetDropsSaid := awsetDrops.over
end Go.Proofs.Ytoogahfmjgajpaa
