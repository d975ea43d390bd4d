/- Any tally in which any key has more is as the document says. -/
import Derived.Test.YtmleajocdooihaaRows
import Derived.WalkKit
import Derived.ProofKit
import Derived.OpenShut
import Derived.ShutString
import Derived.ChangeOld
import Derived.Below
import Derived.SizedLaws
import Derived.Test.YtmleajocdooihaaGT4
namespace Go.Proofs.Ytmleajocdooihaa.tallyAdds
open Go.ChangeShapes Go.WideShapes Go.ChangeAt Go.RowKit
set_option linter.unusedVariables false

theorem own : ownKnob Try.prog.godebug = none := by kernel_rfl
theorem laidOut : laidOutB Try.prog = true := by kernel_rfl

set_option maxHeartbeats 8000000 in
theorem walk (v0 : Value) (v1 : Value) (a2 : Int) (w : World) (w0 : InTs w v0) (w1 : InS10 w v1) (w2 : (Lit.int .i64 a2).wf = true) :
    Calls Try.prog 3 #[v0, v1, .int .i64 a2] w fun e w' => e = .returned (.bool true) ∧ Below w.heap.size w w' := by
  obtain ⟨a, n, cap, s, rfl, hA, hcp⟩ := w0
  obtain ⟨t, rfl⟩ := w1
  obtain ⟨m, rfl⟩ : ∃ m : Int, m = a2 := ⟨_, rfl⟩
  have HV := hide hA
  have HCP := hide hcp
  have HLEN := hide hA.1
  have BB : Hid (Below w.heap.size w w) := Below.refl _ _
  clear hA hcp
  go_enter Try.func3, Try.ntmps3
  go_wp2_with (go_at_call 6; refine (light10 a n cap s _ HV.out).mono ?_; rintro e w1 ⟨bl, rfl, hl, rfl⟩; refine Stop.at ?_)
  unfold Stop
  cases bl
  · clear hl
    go_wp2_with (go_at_call 7; refine (awake10 _).mono ?_; rintro e wz ⟨rfl, hb⟩)
    go_ret
    exact ⟨rfl, bel_next BB.out hb⟩
  · obtain ⟨hn60, hfew⟩ := hl rfl
    clear hl hfew
    by_cases h1 : (t.size : Int) ≤ 100
    · rcases hm : mayT s with _ | _
      · have HMS := hide hm
        have HCK := hide (chkT_no hm)
        have HNO : Hid ((mayT s && okT (t, m)) = false) := by unfold Hid; rw [hm]; rfl
        have HGP : Hid (get10 s t = 0) := by unfold Hid get10; rw [hm]; rfl
        have HAE : Hid (all10 s = []) := by unfold Hid all10; rw [hm]; rfl
        have HAL : Hid (∀ W, TS W a n s → Calls Try.prog 12 #[.slice a n cap] W fun e w' => ∃ p cp, e = .returned (.slice p 0 cp) ∧ TS w' p 0 [] ∧ CP p 0 cp ∧ Below W.heap.size W w') := fun W g => by
          have q := All10_any a n cap s W g HCP.out (by omega)
          rw [HAE.out] at q
          exact q
        clear hm
        go_wp2_with (first | (go_at_call 8; refine (Add10_bad a n cap s _ m _ (HV.out.below BB.out) HNO.out).mono ?_; rintro e wy ⟨rfl, hb⟩; replace BB := hide (bel_next BB.out hb); (try replace HN2 := hide (HN2.out.below hb)); (try replace HN5 := hide (HN5.out.below hb)); (try replace HN6 := hide (HN6.out.below hb)); clear hb) | (go_at_call 9; refine (Check10_any a n cap s _ (HV.out.below BB.out)).mono ?_; rintro e wy ⟨rfl, hb⟩; rw [HCK.out]; replace BB := hide (bel_next BB.out hb); (try replace HN2 := hide (HN2.out.below hb)); (try replace HN5 := hide (HN5.out.below hb)); (try replace HN6 := hide (HN6.out.below hb)); clear hb) | (go_at_call 10; refine (May10_ref a n cap s _ (HV.out.below BB.out)).mono ?_; rintro e wy ⟨rfl, hb⟩; rw [HMS.out]; replace BB := hide (bel_next BB.out hb); (try replace HN2 := hide (HN2.out.below hb)); (try replace HN5 := hide (HN5.out.below hb)); (try replace HN6 := hide (HN6.out.below hb)); clear hb) | (go_at_call 11; refine (Get10_any a n cap s _ _ (HV.out.below BB.out)).mono ?_; rintro e wy ⟨rfl, hb⟩; rw [HGP.out]; replace BB := hide (bel_next BB.out hb); (try replace HN2 := hide (HN2.out.below hb)); (try replace HN5 := hide (HN5.out.below hb)); (try replace HN6 := hide (HN6.out.below hb)); clear hb) | (go_at_call 12; refine (HAL.out _ (HV.out.below BB.out)).mono ?_; rintro e wy ⟨p5, c5, rfl, hn5, hc5, hb⟩; have HN5x := hide hn5; replace BB := hide (bel_next BB.out hb); (try replace HN2 := hide (HN2.out.below hb)); (try replace HN6 := hide (HN6.out.below hb)); clear hb; have HN5 := HN5x; clear HN5x hn5 hc5) | (go_at_call 7; refine (awake10 _).mono ?_; rintro e wz ⟨rfl, hb⟩))
        go_ret
        exact ⟨rfl, bel_next BB.out hb⟩
      · have HMS := hide hm
        have HCK := hide (chkT_yes hm)
        have hsrt := (mayG_iff.1 hm).2.1
        obtain ⟨z, hz⟩ : ∃ z, numT s t = z := ⟨_, rfl⟩
        have hzb := numT_may hm t
        rw [hz] at hzb
        unfold big40 at hzb
        have HGP : Hid (get10 s t = z) := by unfold Hid get10; rw [if_pos hm, hz]
        have HGR : Hid (∀ W, TS W a n s → Calls Try.prog 13 #[.slice a n cap, .string t] W fun e w' => e = .returned (.int .i64 z) ∧ w' = W) := fun W g => by rw [← hz]; exact Get10_ref a n cap s t W g
        have HAE : Hid (all10 s = s) := by unfold Hid all10; rw [if_pos hm]
        have HAL : Hid (∀ W, TS W a n s → Calls Try.prog 12 #[.slice a n cap] W fun e w' => ∃ p cp, e = .returned (.slice p n cp) ∧ TS w' p n s ∧ CP p n cp ∧ Below W.heap.size W w') := fun W g => by
          have q := All10_any a n cap s W g HCP.out (by omega)
          rw [HAE.out, HLEN.out] at q
          exact q
        by_cases k1 : t.size = 0
        · have k2 := eqT k1
          have HBAD : Hid (okT (t, m) = false) := by unfold Hid; simp [okT, mayK, k1]
          have HNO : Hid ((mayT s && okT (t, m)) = false) := by unfold Hid; rw [HMS.out, HBAD.out]; rfl
          subst k2
          clear hm hsrt hz k1
          go_upto_region 8 with (first | (go_at_call 8; refine (Add10_bad a n cap s _ m _ (HV.out.below BB.out) HNO.out).mono ?_; rintro e wy ⟨rfl, hb⟩; replace BB := hide (bel_next BB.out hb); (try replace HN2 := hide (HN2.out.below hb)); (try replace HN5 := hide (HN5.out.below hb)); (try replace HN6 := hide (HN6.out.below hb)); clear hb) | (go_at_call 9; refine (Check10_any a n cap s _ (HV.out.below BB.out)).mono ?_; rintro e wy ⟨rfl, hb⟩; rw [HCK.out]; replace BB := hide (bel_next BB.out hb); (try replace HN2 := hide (HN2.out.below hb)); (try replace HN5 := hide (HN5.out.below hb)); (try replace HN6 := hide (HN6.out.below hb)); clear hb) | (go_at_call 10; refine (May10_ref a n cap s _ (HV.out.below BB.out)).mono ?_; rintro e wy ⟨rfl, hb⟩; rw [HMS.out]; replace BB := hide (bel_next BB.out hb); (try replace HN2 := hide (HN2.out.below hb)); (try replace HN5 := hide (HN5.out.below hb)); (try replace HN6 := hide (HN6.out.below hb)); clear hb))
          go_wp2_with (first | (go_at_call 11; refine (Get10_any a n cap s _ _ (HV.out.below BB.out)).mono ?_; rintro e wy ⟨rfl, hb⟩; rw [HGP.out]; replace BB := hide (bel_next BB.out hb); (try replace HN2 := hide (HN2.out.below hb)); (try replace HN5 := hide (HN5.out.below hb)); (try replace HN6 := hide (HN6.out.below hb)); clear hb) | (go_at_call 13; refine (HGR.out _ (HV.out.below BB.out)).mono ?_; rintro e wy ⟨rfl, rfl⟩) | (go_at_call 12; refine (HAL.out _ (HV.out.below BB.out)).mono ?_; rintro e wy ⟨p5, c5, rfl, hn5, hc5, hb⟩; have HN5x := hide hn5; replace BB := hide (bel_next BB.out hb); (try replace HN2 := hide (HN2.out.below hb)); (try replace HN6 := hide (HN6.out.below hb)); clear hb; have HN5 := HN5x; clear HN5x hn5 hc5) | (go_at_call 14; refine (Same10_ref p5 n c5 s a n cap s _ HN5.out (HV.out.below BB.out)).mono ?_; rintro e wy ⟨rfl, hb⟩; rw [decide_eq_true (rfl : s = s)]; replace BB := hide (bel_next BB.out hb); (try replace HN2 := hide (HN2.out.below hb)); (try replace HN5 := hide (HN5.out.below hb)); (try replace HN6 := hide (HN6.out.below hb)); clear hb; refine Stop.at ?_))
          unfold Stop
          go_wp2_with (go_at_call 7; refine (awake10 _).mono ?_; rintro e wz ⟨rfl, hb⟩)
          go_ret
          exact ⟨rfl, bel_next BB.out hb⟩
        · obtain ⟨k2, k3, k4⟩ := neT k1
          by_cases k5 : (t.size : Int) ≤ 32
          · by_cases m1 : m ≤ 1000
            · by_cases m2 : -1000 ≤ m
              · have hok : okT (t, m) = true := by simp [okT, mayK]; omega
                have HOK := hide hok
                have hw : IntKind.i64.wrap (z + m) = z + m := by rw [IntKind.wrap_i64]; omega
                have HSR : Hid (∀ W, TS W a n s → Calls Try.prog 15 #[.slice a n cap, .string t, .int .i64 (z + m)] W fun e w' => ∃ p cp, e = .returned (.slice p (addT s t m).length cp) ∧ TS w' p (addT s t m).length (addT s t m) ∧ CP p (addT s t m).length cp ∧ Below W.heap.size W w') := fun W g => by
                  have q := Set10_ref a n cap s t (z + m) W g hsrt (by omega)
                  rw [← hz] at q
                  exact hz ▸ q
                rcases hma : mayT (addT s t m) with _ | _
                · have HFU := hide hma
                  have HMA := hide hma
                  clear hm hsrt hz hma hok
                  generalize hAA : addT s t m = A at *
                  obtain ⟨nA, hnA⟩ : ∃ x, A.length = x := ⟨_, rfl⟩
                  rw [hnA] at HSR
                  rw [← hAA] at HFU
                  clear hnA hAA
                  go_upto_region 8 with (first | (go_at_call 8; refine (Add10_full a n cap s t m _ (HV.out.below BB.out) HMS.out HOK.out HFU.out HCP.out).mono ?_; rintro e wy ⟨rfl, hb⟩; replace BB := hide (bel_next BB.out hb); (try replace HN2 := hide (HN2.out.below hb)); (try replace HN5 := hide (HN5.out.below hb)); (try replace HN6 := hide (HN6.out.below hb)); clear hb) | (go_at_call 9; refine (Check10_any a n cap s _ (HV.out.below BB.out)).mono ?_; rintro e wy ⟨rfl, hb⟩; rw [HCK.out]; replace BB := hide (bel_next BB.out hb); (try replace HN2 := hide (HN2.out.below hb)); (try replace HN5 := hide (HN5.out.below hb)); (try replace HN6 := hide (HN6.out.below hb)); clear hb) | (go_at_call 10; refine (May10_ref a n cap s _ (HV.out.below BB.out)).mono ?_; rintro e wy ⟨rfl, hb⟩; rw [HMS.out]; replace BB := hide (bel_next BB.out hb); (try replace HN2 := hide (HN2.out.below hb)); (try replace HN5 := hide (HN5.out.below hb)); (try replace HN6 := hide (HN6.out.below hb)); clear hb))
                  go_wp2_with (first | (go_at_call 11; refine (Get10_any a n cap s _ _ (HV.out.below BB.out)).mono ?_; rintro e wy ⟨rfl, hb⟩; rw [HGP.out]; replace BB := hide (bel_next BB.out hb); (try replace HN2 := hide (HN2.out.below hb)); (try replace HN5 := hide (HN5.out.below hb)); (try replace HN6 := hide (HN6.out.below hb)); clear hb) | (go_at_call 13; refine (HGR.out _ (HV.out.below BB.out)).mono ?_; rintro e wy ⟨rfl, rfl⟩) | (go_at_call 12; refine (HAL.out _ (HV.out.below BB.out)).mono ?_; rintro e wy ⟨p5, c5, rfl, hn5, hc5, hb⟩; have HN5x := hide hn5; replace BB := hide (bel_next BB.out hb); (try replace HN2 := hide (HN2.out.below hb)); (try replace HN6 := hide (HN6.out.below hb)); clear hb; have HN5 := HN5x; clear HN5x hn5 hc5) | (go_at_call 14; refine (Same10_ref p5 n c5 s a n cap s _ HN5.out (HV.out.below BB.out)).mono ?_; rintro e wy ⟨rfl, hb⟩; rw [decide_eq_true (rfl : s = s)]; replace BB := hide (bel_next BB.out hb); (try replace HN2 := hide (HN2.out.below hb)); (try replace HN5 := hide (HN5.out.below hb)); (try replace HN6 := hide (HN6.out.below hb)); clear hb; refine Stop.at ?_))
                  unfold Stop
                  go_wp2_with (first | (go_at_call 13; refine (HGR.out _ (HV.out.below BB.out)).mono ?_; rintro e wy ⟨rfl, rfl⟩) | (go_at_call 15; refine (HSR.out _ (HV.out.below BB.out)).mono ?_; rintro e wy ⟨p6, c6, rfl, hn6, hc6, hb⟩; have HN6x := hide hn6; replace BB := hide (bel_next BB.out hb); (try replace HN2 := hide (HN2.out.below hb)); (try replace HN5 := hide (HN5.out.below hb)); clear hb; have HN6 := HN6x; clear HN6x hn6 hc6) | (go_at_call 10; refine (May10_ref p6 nA c6 A _ HN6.out).mono ?_; rintro e wy ⟨rfl, hb⟩; rw [show mayT A = false from HMA.out]; replace BB := hide (bel_next BB.out hb); (try replace HN2 := hide (HN2.out.below hb)); (try replace HN5 := hide (HN5.out.below hb)); (try replace HN6 := hide (HN6.out.below hb)); clear hb) | (go_at_call 7; refine (awake10 _).mono ?_; rintro e wz ⟨rfl, hb⟩))
                  go_ret
                  exact ⟨rfl, bel_next BB.out hb⟩
                · have HMA := hide hma
                  have HAD : Hid (∀ W, TS W a n s → Calls Try.prog 8 #[.slice a n cap, .string t, .int .i64 m] W fun e w' => ∃ p cp, e = .returned (.tuple #[.slice p (addT s t m).length cp, .int .i64 0]) ∧ TS w' p (addT s t m).length (addT s t m) ∧ CP p (addT s t m).length cp ∧ Below W.heap.size W w') := fun W g => Add10_good a n cap s t m W g HMS.out HOK.out hma HCP.out
                  clear hm hsrt hz hma hok
                  generalize addT s t m = A at *
                  generalize A.length = nA at *
                  go_upto_region 8 with (first | (go_at_call 8; refine (HAD.out _ (HV.out.below BB.out)).mono ?_; rintro e wy ⟨p2, c2, rfl, hn2, hc2, hb⟩; have HN2x := hide hn2; replace BB := hide (bel_next BB.out hb); (try replace HN5 := hide (HN5.out.below hb)); (try replace HN6 := hide (HN6.out.below hb)); clear hb; have HN2 := HN2x; clear HN2x hn2 hc2) | (go_at_call 9; refine (Check10_any a n cap s _ (HV.out.below BB.out)).mono ?_; rintro e wy ⟨rfl, hb⟩; rw [HCK.out]; replace BB := hide (bel_next BB.out hb); (try replace HN2 := hide (HN2.out.below hb)); (try replace HN5 := hide (HN5.out.below hb)); (try replace HN6 := hide (HN6.out.below hb)); clear hb) | (go_at_call 10; refine (May10_ref a n cap s _ (HV.out.below BB.out)).mono ?_; rintro e wy ⟨rfl, hb⟩; rw [HMS.out]; replace BB := hide (bel_next BB.out hb); (try replace HN2 := hide (HN2.out.below hb)); (try replace HN5 := hide (HN5.out.below hb)); (try replace HN6 := hide (HN6.out.below hb)); clear hb))
                  go_wp2_with (first | (go_at_call 11; refine (Get10_any a n cap s _ _ (HV.out.below BB.out)).mono ?_; rintro e wy ⟨rfl, hb⟩; rw [HGP.out]; replace BB := hide (bel_next BB.out hb); (try replace HN2 := hide (HN2.out.below hb)); (try replace HN5 := hide (HN5.out.below hb)); (try replace HN6 := hide (HN6.out.below hb)); clear hb) | (go_at_call 13; refine (HGR.out _ (HV.out.below BB.out)).mono ?_; rintro e wy ⟨rfl, rfl⟩) | (go_at_call 12; refine (HAL.out _ (HV.out.below BB.out)).mono ?_; rintro e wy ⟨p5, c5, rfl, hn5, hc5, hb⟩; have HN5x := hide hn5; replace BB := hide (bel_next BB.out hb); (try replace HN2 := hide (HN2.out.below hb)); (try replace HN6 := hide (HN6.out.below hb)); clear hb; have HN5 := HN5x; clear HN5x hn5 hc5) | (go_at_call 14; refine (Same10_ref p5 n c5 s a n cap s _ HN5.out (HV.out.below BB.out)).mono ?_; rintro e wy ⟨rfl, hb⟩; rw [decide_eq_true (rfl : s = s)]; replace BB := hide (bel_next BB.out hb); (try replace HN2 := hide (HN2.out.below hb)); (try replace HN5 := hide (HN5.out.below hb)); (try replace HN6 := hide (HN6.out.below hb)); clear hb; refine Stop.at ?_))
                  unfold Stop
                  go_wp2_with (first | (go_at_call 13; refine (HGR.out _ (HV.out.below BB.out)).mono ?_; rintro e wy ⟨rfl, rfl⟩) | (go_at_call 15; refine (HSR.out _ (HV.out.below BB.out)).mono ?_; rintro e wy ⟨p6, c6, rfl, hn6, hc6, hb⟩; have HN6x := hide hn6; replace BB := hide (bel_next BB.out hb); (try replace HN2 := hide (HN2.out.below hb)); (try replace HN5 := hide (HN5.out.below hb)); clear hb; have HN6 := HN6x; clear HN6x hn6 hc6) | (go_at_call 10; refine (May10_ref p6 nA c6 A _ HN6.out).mono ?_; rintro e wy ⟨rfl, hb⟩; rw [show mayT A = true from HMA.out]; replace BB := hide (bel_next BB.out hb); (try replace HN2 := hide (HN2.out.below hb)); (try replace HN5 := hide (HN5.out.below hb)); (try replace HN6 := hide (HN6.out.below hb)); clear hb) | (go_at_call 14; refine (Same10_ref p2 nA c2 A p6 nA c6 A _ HN2.out HN6.out).mono ?_; rintro e wy ⟨rfl, hb⟩; rw [decide_eq_true (rfl : A = A)]; replace BB := hide (bel_next BB.out hb); (try replace HN2 := hide (HN2.out.below hb)); (try replace HN5 := hide (HN5.out.below hb)); (try replace HN6 := hide (HN6.out.below hb)); clear hb; refine Stop.at ?_))
                  unfold Stop
                  go_wp2_with (go_at_call 7; refine (awake10 _).mono ?_; rintro e wz ⟨rfl, hb⟩)
                  go_ret
                  exact ⟨rfl, bel_next BB.out hb⟩
              · have m3 : m < -1000 := by omega
                have HBAD : Hid (okT (t, m) = false) := by unfold Hid; simp [okT]; omega
                have HNO : Hid ((mayT s && okT (t, m)) = false) := by unfold Hid; rw [HMS.out, HBAD.out]; rfl
                clear hm hsrt hz
                go_upto_region 8 with (first | (go_at_call 8; refine (Add10_bad a n cap s _ m _ (HV.out.below BB.out) HNO.out).mono ?_; rintro e wy ⟨rfl, hb⟩; replace BB := hide (bel_next BB.out hb); (try replace HN2 := hide (HN2.out.below hb)); (try replace HN5 := hide (HN5.out.below hb)); (try replace HN6 := hide (HN6.out.below hb)); clear hb) | (go_at_call 9; refine (Check10_any a n cap s _ (HV.out.below BB.out)).mono ?_; rintro e wy ⟨rfl, hb⟩; rw [HCK.out]; replace BB := hide (bel_next BB.out hb); (try replace HN2 := hide (HN2.out.below hb)); (try replace HN5 := hide (HN5.out.below hb)); (try replace HN6 := hide (HN6.out.below hb)); clear hb) | (go_at_call 10; refine (May10_ref a n cap s _ (HV.out.below BB.out)).mono ?_; rintro e wy ⟨rfl, hb⟩; rw [HMS.out]; replace BB := hide (bel_next BB.out hb); (try replace HN2 := hide (HN2.out.below hb)); (try replace HN5 := hide (HN5.out.below hb)); (try replace HN6 := hide (HN6.out.below hb)); clear hb))
                go_wp2_with (first | (go_at_call 11; refine (Get10_any a n cap s _ _ (HV.out.below BB.out)).mono ?_; rintro e wy ⟨rfl, hb⟩; rw [HGP.out]; replace BB := hide (bel_next BB.out hb); (try replace HN2 := hide (HN2.out.below hb)); (try replace HN5 := hide (HN5.out.below hb)); (try replace HN6 := hide (HN6.out.below hb)); clear hb) | (go_at_call 13; refine (HGR.out _ (HV.out.below BB.out)).mono ?_; rintro e wy ⟨rfl, rfl⟩) | (go_at_call 12; refine (HAL.out _ (HV.out.below BB.out)).mono ?_; rintro e wy ⟨p5, c5, rfl, hn5, hc5, hb⟩; have HN5x := hide hn5; replace BB := hide (bel_next BB.out hb); (try replace HN2 := hide (HN2.out.below hb)); (try replace HN6 := hide (HN6.out.below hb)); clear hb; have HN5 := HN5x; clear HN5x hn5 hc5) | (go_at_call 14; refine (Same10_ref p5 n c5 s a n cap s _ HN5.out (HV.out.below BB.out)).mono ?_; rintro e wy ⟨rfl, hb⟩; rw [decide_eq_true (rfl : s = s)]; replace BB := hide (bel_next BB.out hb); (try replace HN2 := hide (HN2.out.below hb)); (try replace HN5 := hide (HN5.out.below hb)); (try replace HN6 := hide (HN6.out.below hb)); clear hb; refine Stop.at ?_))
                unfold Stop
                go_wp2_with (go_at_call 7; refine (awake10 _).mono ?_; rintro e wz ⟨rfl, hb⟩)
                go_ret
                exact ⟨rfl, bel_next BB.out hb⟩
            · have m3 : 1000 < m := by omega
              have HBAD : Hid (okT (t, m) = false) := by unfold Hid; simp [okT]; omega
              have HNO : Hid ((mayT s && okT (t, m)) = false) := by unfold Hid; rw [HMS.out, HBAD.out]; rfl
              clear hm hsrt hz
              go_upto_region 8 with (first | (go_at_call 8; refine (Add10_bad a n cap s _ m _ (HV.out.below BB.out) HNO.out).mono ?_; rintro e wy ⟨rfl, hb⟩; replace BB := hide (bel_next BB.out hb); (try replace HN2 := hide (HN2.out.below hb)); (try replace HN5 := hide (HN5.out.below hb)); (try replace HN6 := hide (HN6.out.below hb)); clear hb) | (go_at_call 9; refine (Check10_any a n cap s _ (HV.out.below BB.out)).mono ?_; rintro e wy ⟨rfl, hb⟩; rw [HCK.out]; replace BB := hide (bel_next BB.out hb); (try replace HN2 := hide (HN2.out.below hb)); (try replace HN5 := hide (HN5.out.below hb)); (try replace HN6 := hide (HN6.out.below hb)); clear hb) | (go_at_call 10; refine (May10_ref a n cap s _ (HV.out.below BB.out)).mono ?_; rintro e wy ⟨rfl, hb⟩; rw [HMS.out]; replace BB := hide (bel_next BB.out hb); (try replace HN2 := hide (HN2.out.below hb)); (try replace HN5 := hide (HN5.out.below hb)); (try replace HN6 := hide (HN6.out.below hb)); clear hb))
              go_wp2_with (first | (go_at_call 11; refine (Get10_any a n cap s _ _ (HV.out.below BB.out)).mono ?_; rintro e wy ⟨rfl, hb⟩; rw [HGP.out]; replace BB := hide (bel_next BB.out hb); (try replace HN2 := hide (HN2.out.below hb)); (try replace HN5 := hide (HN5.out.below hb)); (try replace HN6 := hide (HN6.out.below hb)); clear hb) | (go_at_call 13; refine (HGR.out _ (HV.out.below BB.out)).mono ?_; rintro e wy ⟨rfl, rfl⟩) | (go_at_call 12; refine (HAL.out _ (HV.out.below BB.out)).mono ?_; rintro e wy ⟨p5, c5, rfl, hn5, hc5, hb⟩; have HN5x := hide hn5; replace BB := hide (bel_next BB.out hb); (try replace HN2 := hide (HN2.out.below hb)); (try replace HN6 := hide (HN6.out.below hb)); clear hb; have HN5 := HN5x; clear HN5x hn5 hc5) | (go_at_call 14; refine (Same10_ref p5 n c5 s a n cap s _ HN5.out (HV.out.below BB.out)).mono ?_; rintro e wy ⟨rfl, hb⟩; rw [decide_eq_true (rfl : s = s)]; replace BB := hide (bel_next BB.out hb); (try replace HN2 := hide (HN2.out.below hb)); (try replace HN5 := hide (HN5.out.below hb)); (try replace HN6 := hide (HN6.out.below hb)); clear hb; refine Stop.at ?_))
              unfold Stop
              go_wp2_with (go_at_call 7; refine (awake10 _).mono ?_; rintro e wz ⟨rfl, hb⟩)
              go_ret
              exact ⟨rfl, bel_next BB.out hb⟩
          · have k6 : (32 : Int) < (t.size : Int) := by omega
            have HBAD : Hid (okT (t, m) = false) := by unfold Hid; simp [okT, mayK]; omega
            have HNO : Hid ((mayT s && okT (t, m)) = false) := by unfold Hid; rw [HMS.out, HBAD.out]; rfl
            clear hm hsrt hz
            go_upto_region 8 with (first | (go_at_call 8; refine (Add10_bad a n cap s _ m _ (HV.out.below BB.out) HNO.out).mono ?_; rintro e wy ⟨rfl, hb⟩; replace BB := hide (bel_next BB.out hb); (try replace HN2 := hide (HN2.out.below hb)); (try replace HN5 := hide (HN5.out.below hb)); (try replace HN6 := hide (HN6.out.below hb)); clear hb) | (go_at_call 9; refine (Check10_any a n cap s _ (HV.out.below BB.out)).mono ?_; rintro e wy ⟨rfl, hb⟩; rw [HCK.out]; replace BB := hide (bel_next BB.out hb); (try replace HN2 := hide (HN2.out.below hb)); (try replace HN5 := hide (HN5.out.below hb)); (try replace HN6 := hide (HN6.out.below hb)); clear hb) | (go_at_call 10; refine (May10_ref a n cap s _ (HV.out.below BB.out)).mono ?_; rintro e wy ⟨rfl, hb⟩; rw [HMS.out]; replace BB := hide (bel_next BB.out hb); (try replace HN2 := hide (HN2.out.below hb)); (try replace HN5 := hide (HN5.out.below hb)); (try replace HN6 := hide (HN6.out.below hb)); clear hb))
            go_wp2_with (first | (go_at_call 11; refine (Get10_any a n cap s _ _ (HV.out.below BB.out)).mono ?_; rintro e wy ⟨rfl, hb⟩; rw [HGP.out]; replace BB := hide (bel_next BB.out hb); (try replace HN2 := hide (HN2.out.below hb)); (try replace HN5 := hide (HN5.out.below hb)); (try replace HN6 := hide (HN6.out.below hb)); clear hb) | (go_at_call 13; refine (HGR.out _ (HV.out.below BB.out)).mono ?_; rintro e wy ⟨rfl, rfl⟩) | (go_at_call 12; refine (HAL.out _ (HV.out.below BB.out)).mono ?_; rintro e wy ⟨p5, c5, rfl, hn5, hc5, hb⟩; have HN5x := hide hn5; replace BB := hide (bel_next BB.out hb); (try replace HN2 := hide (HN2.out.below hb)); (try replace HN6 := hide (HN6.out.below hb)); clear hb; have HN5 := HN5x; clear HN5x hn5 hc5) | (go_at_call 14; refine (Same10_ref p5 n c5 s a n cap s _ HN5.out (HV.out.below BB.out)).mono ?_; rintro e wy ⟨rfl, hb⟩; rw [decide_eq_true (rfl : s = s)]; replace BB := hide (bel_next BB.out hb); (try replace HN2 := hide (HN2.out.below hb)); (try replace HN5 := hide (HN5.out.below hb)); (try replace HN6 := hide (HN6.out.below hb)); clear hb; refine Stop.at ?_))
            unfold Stop
            go_wp2_with (go_at_call 7; refine (awake10 _).mono ?_; rintro e wz ⟨rfl, hb⟩)
            go_ret
            exact ⟨rfl, bel_next BB.out hb⟩
    · go_wp2_with (go_at_call 7; refine (awake10 _).mono ?_; rintro e wz ⟨rfl, hb⟩)
      go_ret
      exact ⟨rfl, bel_next BB.out hb⟩

/-! ### The row's step -/
set_option maxRecDepth 100000 in
theorem lifted (os : Os) (started : os.Started) (H : Type) (enc : TypeId × Value → H) :
    ReturnsInHanded {} Try.checked os 3 .any (Rows.tallyAddsSpec.pre6 enc Try.prog Try.f3 Rows.tallyAddsRow.domain false) (Rows.tallyAddsSpec.post enc Try.prog Try.f3 false true false false) := by
  refine returnsInHanded_of_change_sized (C := Try.checked) own started (by kernel_rfl) Try.func3
    (ChangeSpec.witness6 (enc := enc) (C := Try.checked) false ⟨#[], #[.slice none 0 0, .string ⟨#[]⟩, .int .i64 0], []⟩ 8 (by kernel_rfl) (by kernel_rfl) (by kernel_rfl) (by kernel_rfl)) ?_
  intro W base args ds gs before hval0 hW hcnd hz0 _
  have hval : ∀ (j : Nat) t v, Try.f3.params[j]? = some t → args[j]? = some v → Value.okWide Try.prog W .any base t v := hval0
  have hz : (DataW.weightsEach Try.prog (Try.f3.params.toList ++ Rows.tallyAddsSpec.plain.varTypes Try.prog) (ds ++ gs)).all (· ≤ reachBytes) = true := hz0
  have hW' := hW
  obtain ⟨p, q, hA0, hV, rfl, hfz, hnd⟩ := hW
  have hA : DataW.TrodAll enc Try.prog W 0 (fun _ => true) true Try.f3.params.toList args.toList ds p := hA0
  rw [Try.params3] at hA hval hz
  obtain ⟨v0, vs0, d0, ds0, p0, q0, hargs, rfl, rfl, h0, r0⟩ := trodAll_cons hA
  obtain ⟨v1, vs1, d1, ds1, p1, q1, rfl, rfl, rfl, h1, r1⟩ := trodAll_cons r0
  obtain ⟨v2, vs2, d2, ds2, p2, q2, rfl, rfl, rfl, h2, r2⟩ := trodAll_cons r1
  obtain ⟨rfl, rfl, rfl⟩ := trodAll_nil r2
  obtain rfl : args = #[v0, v1, v2] := by cases args; simp_all
  obtain ⟨rfl, rfl⟩ := trodVars_none hV
  have k0 := h0
  have lt0 : ∀ x ∈ p0, x.block < W.heap.size := by obtain ⟨m, hm⟩ := k0; exact DataW.trod_lt m _ _ _ hm
  have w0 : InTs W v0 := in_cells (hval 0 22 v0 rfl rfl) h0 (fun n hn => by have := List.all_eq_true.1 hz n (DataW.weights_mem_each (j := 0) (t := 22) rfl rfl n hn); simpa using this)
  have k1 := h1
  have lt1 : ∀ x ∈ p1, x.block < W.heap.size := by obtain ⟨m, hm⟩ := k1; exact DataW.trod_lt m _ _ _ hm
  have w1 : InS10 W v1 := in_str10 (hval 1 9 v1 rfl rfl) h1 (fun n hn => by have := List.all_eq_true.1 hz n (DataW.weights_mem_each (j := 1) (t := 9) rfl rfl n hn); simpa using this)
  obtain ⟨a2, rfl, rfl, rfl, w2⟩ := open_int Try.underlying3 (hval 2 3 v2 rfl rfl) h2
  clear hA0 hval0 hz0
  refine (walk v0 v1 a2 W w0 w1 w2).mono fun e W' ⟨he, bel⟩ => ?_
  subst he
  exact ⟨_, rfl, _, _, _, [], _, [], hW', trodAll_mk1 (shut_bool Try.underlying4 _), (trodAll_cons_mk (Below.trod laidOut (by kernel_rfl) (of_decide_eq_true (by kernel_rfl)) k0 bel lt0) (trodAll_cons_mk (Below.trod laidOut (by kernel_rfl) (of_decide_eq_true (by kernel_rfl)) k1 bel lt1) (trodAll_cons_mk (shut_int Try.underlying3 w2) trodAll_mk0))), rfl, bel.frame _, fun h => by cases h⟩

theorem over : Rows.tallyAddsRow.holds Try.pinned (OpenSpec.ofChange Rows.tallyAddsSpec) :=
  OpenClaim.holds_of_wide 3 Try.f3 rfl rfl rfl rfl rfl rfl rfl ⟨rfl, rfl, rfl, rfl, rfl⟩ rfl rfl rfl rfl rfl (by kernel_rfl) Try.func3 (by kernel_rfl)
    (of_decide_eq_true (by kernel_rfl)) (by unfold Func.isWrapper; first | (rw [if_pos (by decide +kernel)]; kernel_rfl) | (rw [if_neg (by decide +kernel)]; exact ⟨rfl, rfl⟩))
    (fun os started H enc _ => lifted os started H enc)
end Go.Proofs.Ytmleajocdooihaa.tallyAdds
namespace Go.Proofs.Ytmleajocdooihaa
theorem tallyAdds_holds : Rows.TallyAddsSaid := tallyAdds.over
end Go.Proofs.Ytmleajocdooihaa
