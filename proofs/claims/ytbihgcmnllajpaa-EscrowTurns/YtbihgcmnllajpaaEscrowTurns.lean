/- Any accounts behind any deed are as the document says. -/
import Derived.Test.YtbihgcmnllajpaaRows
import Derived.WalkKit
import Derived.ProofKit
import Derived.OpenShut
import Derived.ShutString
import Derived.ChangeOld
import Derived.Below
import Derived.SizedLaws
import Derived.Test.YtbihgcmnllajpaaGEq
namespace Go.Proofs.Ytbihgcmnllajpaa.escrowTurns
open Go.ChangeShapes Go.WideShapes Go.ChangeAt Go.RowKit
set_option linter.unusedVariables false

theorem own : ownKnob Try.prog.godebug = none := by kernel_rfl
theorem laidOut : laidOutB Try.prog = true := by kernel_rfl

set_option maxRecDepth 4000 in
set_option maxHeartbeats 32000000 in
theorem walk (v0 : Value) (v1 : Value) (w : World) (w0 : InAc w v0) (w1 : InDd11 w v1) :
    Calls Try.prog 3 #[v0, v1] w fun e w' => e = .returned (.bool true) ∧ Below w.heap.size w w' := by
  obtain ⟨a, n, cap, s, rfl, hA, hcp⟩ := w0
  obtain ⟨t, r, q, m, rfl⟩ := w1
  have HV := hide hA
  have HCP := hide hcp
  have HLEN := hide hA.1.1
  have BB := hide (bel1 w (.cells #[.string t, .int .i64 r, .int .i64 q, .int .i64 m] 24))
  have d0 := cell_new w #[.string t, .int .i64 r, .int .i64 q, .int .i64 m] 24 _ rfl 0 _ rfl
  have d1 := cell_new w #[.string t, .int .i64 r, .int .i64 q, .int .i64 m] 24 _ rfl 1 _ rfl
  have d2 := cell_new w #[.string t, .int .i64 r, .int .i64 q, .int .i64 m] 24 _ rfl 2 _ rfl
  have d3 := cell_new w #[.string t, .int .i64 r, .int .i64 q, .int .i64 m] 24 _ rfl 3 _ rfl
  clear hA hcp
  go_enter Try.func3, Try.ntmps3
  go_wp2_with (go_at_call 7; refine (light11 a n cap s _ (HV.out.below BB.out)).mono ?_; rintro e w1 ⟨bl, rfl, hl, rfl⟩; refine Stop.at ?_)
  unfold Stop
  cases bl
  · clear hl
    go_wp2_with (go_at_call 8; refine (awake11 _).mono ?_; rintro e wz ⟨rfl, hb⟩)
    go_ret
    exact ⟨rfl, bel_next BB.out hb⟩
  · obtain ⟨hn60, hfew⟩ := hl rfl
    clear hl hfew
    by_cases h1 : (t.size : Int) ≤ 100
    · rcases hm : mayA s with _ | _
      · have HMS := hide hm
        have HCK := hide (chk11_no hm)
        have HUN : Hid (okUp s t r m = false) := by
          unfold Hid
          rw [Bool.eq_false_iff]
          intro h
          have h := okUp_iff.1 h
          (rw [h.1] at hm; cases hm)
        have HNO : Hid (okMov s t r q m = false) := by
          unfold Hid
          rw [Bool.eq_false_iff]
          intro h
          have h := okMov_iff.1 h
          (rw [h.1] at hm; cases hm)
        clear hm
        go_wp2_with (first | (go_at_call 9; refine (Up11_bad a n cap s _ _ m _ (HV.out.below BB.out) HUN.out).mono ?_; rintro e wy ⟨rfl, hb⟩; replace BB := hide (bel_next BB.out hb); (try replace d0 := bcell hb d0); (try replace d1 := bcell hb d1); (try replace d2 := bcell hb d2); (try replace d3 := bcell hb d3); (try replace HN2 := hide (HN2.out.below hb)); (try replace HN3 := hide (HN3.out.below hb)); (try replace HN5 := hide (HN5.out.below hb)); (try replace HN6 := hide (HN6.out.below hb)); clear hb) | (go_at_call 10; refine (Move11_bad a n cap s _ _ _ m _ (HV.out.below BB.out) HNO.out).mono ?_; rintro e wy ⟨rfl, hb⟩; replace BB := hide (bel_next BB.out hb); (try replace d0 := bcell hb d0); (try replace d1 := bcell hb d1); (try replace d2 := bcell hb d2); (try replace d3 := bcell hb d3); (try replace HN2 := hide (HN2.out.below hb)); (try replace HN3 := hide (HN3.out.below hb)); (try replace HN5 := hide (HN5.out.below hb)); (try replace HN6 := hide (HN6.out.below hb)); clear hb) | (go_at_call 11; refine (Right11_ref a n cap s _ (HV.out.below BB.out)).mono ?_; rintro e wy ⟨rfl, hb⟩; rw [HMS.out]; replace BB := hide (bel_next BB.out hb); (try replace d0 := bcell hb d0); (try replace d1 := bcell hb d1); (try replace d2 := bcell hb d2); (try replace d3 := bcell hb d3); (try replace HN2 := hide (HN2.out.below hb)); (try replace HN3 := hide (HN3.out.below hb)); (try replace HN5 := hide (HN5.out.below hb)); (try replace HN6 := hide (HN6.out.below hb)); clear hb) | (go_at_call 13; refine (Check11_any a n cap s _ (HV.out.below BB.out)).mono ?_; rintro e wy ⟨rfl, hb⟩; rw [HCK.out]; replace BB := hide (bel_next BB.out hb); (try replace d0 := bcell hb d0); (try replace d1 := bcell hb d1); (try replace d2 := bcell hb d2); (try replace d3 := bcell hb d3); (try replace HN2 := hide (HN2.out.below hb)); (try replace HN3 := hide (HN3.out.below hb)); (try replace HN5 := hide (HN5.out.below hb)); (try replace HN6 := hide (HN6.out.below hb)); clear hb) | (go_at_call 8; refine (awake11 _).mono ?_; rintro e wz ⟨rfl, hb⟩))
        go_ret
        exact ⟨by first | rfl | (simp; omega) | (simp [*]), bel_next BB.out hb⟩
      · have HMS := hide hm
        have HCK := hide (chk11_yes hm)
        have HPS := hide (mayA_parts hm)
        by_cases k1 : t.size = 0
        · have k2 := eqT k1
          have HUN : Hid (okUp s t r m = false) := by
            unfold Hid
            rw [Bool.eq_false_iff]
            intro h
            have h := okUp_iff.1 h
            (have := h.2.1; simp [mayK, k1] at this)
          have HNO : Hid (okMov s t r q m = false) := by
            unfold Hid
            rw [Bool.eq_false_iff]
            intro h
            have h := okMov_iff.1 h
            (have := h.2.1; simp [mayK, k1] at this)
          subst k2
          clear hm k1
          go_wp2_with (first | (go_at_call 9; refine (Up11_bad a n cap s _ _ m _ (HV.out.below BB.out) HUN.out).mono ?_; rintro e wy ⟨rfl, hb⟩; replace BB := hide (bel_next BB.out hb); (try replace d0 := bcell hb d0); (try replace d1 := bcell hb d1); (try replace d2 := bcell hb d2); (try replace d3 := bcell hb d3); (try replace HN2 := hide (HN2.out.below hb)); (try replace HN3 := hide (HN3.out.below hb)); (try replace HN5 := hide (HN5.out.below hb)); (try replace HN6 := hide (HN6.out.below hb)); clear hb) | (go_at_call 10; refine (Move11_bad a n cap s _ _ _ m _ (HV.out.below BB.out) HNO.out).mono ?_; rintro e wy ⟨rfl, hb⟩; replace BB := hide (bel_next BB.out hb); (try replace d0 := bcell hb d0); (try replace d1 := bcell hb d1); (try replace d2 := bcell hb d2); (try replace d3 := bcell hb d3); (try replace HN2 := hide (HN2.out.below hb)); (try replace HN3 := hide (HN3.out.below hb)); (try replace HN5 := hide (HN5.out.below hb)); (try replace HN6 := hide (HN6.out.below hb)); clear hb) | (go_at_call 11; refine (Right11_ref a n cap s _ (HV.out.below BB.out)).mono ?_; rintro e wy ⟨rfl, hb⟩; rw [HMS.out]; replace BB := hide (bel_next BB.out hb); (try replace d0 := bcell hb d0); (try replace d1 := bcell hb d1); (try replace d2 := bcell hb d2); (try replace d3 := bcell hb d3); (try replace HN2 := hide (HN2.out.below hb)); (try replace HN3 := hide (HN3.out.below hb)); (try replace HN5 := hide (HN5.out.below hb)); (try replace HN6 := hide (HN6.out.below hb)); clear hb) | (go_at_call 13; refine (Check11_any a n cap s _ (HV.out.below BB.out)).mono ?_; rintro e wy ⟨rfl, hb⟩; rw [HCK.out]; replace BB := hide (bel_next BB.out hb); (try replace d0 := bcell hb d0); (try replace d1 := bcell hb d1); (try replace d2 := bcell hb d2); (try replace d3 := bcell hb d3); (try replace HN2 := hide (HN2.out.below hb)); (try replace HN3 := hide (HN3.out.below hb)); (try replace HN5 := hide (HN5.out.below hb)); (try replace HN6 := hide (HN6.out.below hb)); clear hb) | (go_at_call 8; refine (awake11 _).mono ?_; rintro e wz ⟨rfl, hb⟩))
          go_ret
          exact ⟨by first | rfl | (simp; omega) | (simp [*]), bel_next BB.out hb⟩
        · obtain ⟨k2, k3, k4⟩ := neT k1
          by_cases k5 : (t.size : Int) ≤ 32
          · have HKT : Hid (mayK t = true) := (show _ = _ by simp [mayK]; omega)
            rcases hr : okRep r with _ | _
            · have HR := hide hr
              have HUN : Hid (okUp s t r m = false) := by
                unfold Hid
                rw [Bool.eq_false_iff]
                intro h
                have h := okUp_iff.1 h
                (have := h.2.2.1; rw [hr] at this; cases this)
              have HNO : Hid (okMov s t r q m = false) := by
                unfold Hid
                rw [Bool.eq_false_iff]
                intro h
                have h := okMov_iff.1 h
                (have := h.2.2.1; rw [hr] at this; cases this)
              clear hm hr
              go_wp2_with (first | (go_at_call 9; refine (Up11_bad a n cap s _ _ m _ (HV.out.below BB.out) HUN.out).mono ?_; rintro e wy ⟨rfl, hb⟩; replace BB := hide (bel_next BB.out hb); (try replace d0 := bcell hb d0); (try replace d1 := bcell hb d1); (try replace d2 := bcell hb d2); (try replace d3 := bcell hb d3); (try replace HN2 := hide (HN2.out.below hb)); (try replace HN3 := hide (HN3.out.below hb)); (try replace HN5 := hide (HN5.out.below hb)); (try replace HN6 := hide (HN6.out.below hb)); clear hb) | (go_at_call 10; refine (Move11_bad a n cap s _ _ _ m _ (HV.out.below BB.out) HNO.out).mono ?_; rintro e wy ⟨rfl, hb⟩; replace BB := hide (bel_next BB.out hb); (try replace d0 := bcell hb d0); (try replace d1 := bcell hb d1); (try replace d2 := bcell hb d2); (try replace d3 := bcell hb d3); (try replace HN2 := hide (HN2.out.below hb)); (try replace HN3 := hide (HN3.out.below hb)); (try replace HN5 := hide (HN5.out.below hb)); (try replace HN6 := hide (HN6.out.below hb)); clear hb) | (go_at_call 11; refine (Right11_ref a n cap s _ (HV.out.below BB.out)).mono ?_; rintro e wy ⟨rfl, hb⟩; rw [HMS.out]; replace BB := hide (bel_next BB.out hb); (try replace d0 := bcell hb d0); (try replace d1 := bcell hb d1); (try replace d2 := bcell hb d2); (try replace d3 := bcell hb d3); (try replace HN2 := hide (HN2.out.below hb)); (try replace HN3 := hide (HN3.out.below hb)); (try replace HN5 := hide (HN5.out.below hb)); (try replace HN6 := hide (HN6.out.below hb)); clear hb) | (go_at_call 13; refine (Check11_any a n cap s _ (HV.out.below BB.out)).mono ?_; rintro e wy ⟨rfl, hb⟩; rw [HCK.out]; replace BB := hide (bel_next BB.out hb); (try replace d0 := bcell hb d0); (try replace d1 := bcell hb d1); (try replace d2 := bcell hb d2); (try replace d3 := bcell hb d3); (try replace HN2 := hide (HN2.out.below hb)); (try replace HN3 := hide (HN3.out.below hb)); (try replace HN5 := hide (HN5.out.below hb)); (try replace HN6 := hide (HN6.out.below hb)); clear hb) | (go_at_call 12; refine (there11 _ _).mono ?_; rintro e wy ⟨rfl, rfl⟩; (first | rw [HR.out] | rw [HQ.out])) | (go_at_call 8; refine (awake11 _).mono ?_; rintro e wz ⟨rfl, hb⟩))
              go_ret
              exact ⟨by first | rfl | (simp; omega) | (simp [*]), bel_next BB.out hb⟩
            · have HR0 := hide hr
              obtain ⟨rr, hrr, rfl⟩ := repN hr
              have HR := HR0
              clear HR0 hr
              by_cases m9 : m ≤ 1000
              · by_cases m8 : m < -1000
                · skip
                  have HUN : Hid (okUp s t ((rr : Int) + 1) m = false) := by
                    unfold Hid
                    rw [Bool.eq_false_iff]
                    intro h
                    have h := okUp_iff.1 h
                    (have := h.2.2.2; omega)
                  have HNO : Hid (okMov s t ((rr : Int) + 1) q m = false) := by
                    unfold Hid
                    rw [Bool.eq_false_iff]
                    intro h
                    have h := okMov_iff.1 h
                    (have := h.2.2.2.2; omega)
                  clear hm
                  go_wp2_with (first | (go_at_call 9; refine (Up11_bad a n cap s _ _ m _ (HV.out.below BB.out) HUN.out).mono ?_; rintro e wy ⟨rfl, hb⟩; replace BB := hide (bel_next BB.out hb); (try replace d0 := bcell hb d0); (try replace d1 := bcell hb d1); (try replace d2 := bcell hb d2); (try replace d3 := bcell hb d3); (try replace HN2 := hide (HN2.out.below hb)); (try replace HN3 := hide (HN3.out.below hb)); (try replace HN5 := hide (HN5.out.below hb)); (try replace HN6 := hide (HN6.out.below hb)); clear hb) | (go_at_call 10; refine (Move11_bad a n cap s _ _ _ m _ (HV.out.below BB.out) HNO.out).mono ?_; rintro e wy ⟨rfl, hb⟩; replace BB := hide (bel_next BB.out hb); (try replace d0 := bcell hb d0); (try replace d1 := bcell hb d1); (try replace d2 := bcell hb d2); (try replace d3 := bcell hb d3); (try replace HN2 := hide (HN2.out.below hb)); (try replace HN3 := hide (HN3.out.below hb)); (try replace HN5 := hide (HN5.out.below hb)); (try replace HN6 := hide (HN6.out.below hb)); clear hb) | (go_at_call 11; refine (Right11_ref a n cap s _ (HV.out.below BB.out)).mono ?_; rintro e wy ⟨rfl, hb⟩; rw [HMS.out]; replace BB := hide (bel_next BB.out hb); (try replace d0 := bcell hb d0); (try replace d1 := bcell hb d1); (try replace d2 := bcell hb d2); (try replace d3 := bcell hb d3); (try replace HN2 := hide (HN2.out.below hb)); (try replace HN3 := hide (HN3.out.below hb)); (try replace HN5 := hide (HN5.out.below hb)); (try replace HN6 := hide (HN6.out.below hb)); clear hb) | (go_at_call 13; refine (Check11_any a n cap s _ (HV.out.below BB.out)).mono ?_; rintro e wy ⟨rfl, hb⟩; rw [HCK.out]; replace BB := hide (bel_next BB.out hb); (try replace d0 := bcell hb d0); (try replace d1 := bcell hb d1); (try replace d2 := bcell hb d2); (try replace d3 := bcell hb d3); (try replace HN2 := hide (HN2.out.below hb)); (try replace HN3 := hide (HN3.out.below hb)); (try replace HN5 := hide (HN5.out.below hb)); (try replace HN6 := hide (HN6.out.below hb)); clear hb) | (go_at_call 12; refine (there11 _ _).mono ?_; rintro e wy ⟨rfl, rfl⟩; (first | rw [HR.out] | rw [HQ.out])) | (go_at_call 8; refine (awake11 _).mono ?_; rintro e wz ⟨rfl, hb⟩))
                  go_ret
                  exact ⟨by first | rfl | (simp; omega) | (simp [*]), bel_next BB.out hb⟩
                · have HAD : Hid (∀ W, AC W a n s → Calls Try.prog 14 #[.slice a n cap, .string t, .int .i64 ((rr : Int) + 1), .int .i64 m] W fun e w' => ∃ p cp, e = .returned (.slice p (addA s t (rr + 1) m).length cp) ∧ AC w' p (addA s t (rr + 1) m).length (addA s t (rr + 1) m) ∧ CP p (addA s t (rr + 1) m).length cp ∧ Below W.heap.size W w') := fun W g => Add11_ref a n cap s t rr hrr m (by omega) W g HPS.out.1 (by omega) (bd41_of (havA_may HMS.out t))
                  clear hm
                  rcases hma : mayA (addA s t (rr + 1) m) with _ | _
                  · skip
                    have HUP := hide (fun W (g : AC W a n s) => Up11_full a n cap s t rr hrr m (by omega) W g HCP.out HMS.out HKT.out hma)
                    have HRA : Hid (∀ p c W, AC W p (addA s t (rr + 1) m).length (addA s t (rr + 1) m) → Calls Try.prog 11 #[.slice p (addA s t (rr + 1) m).length c] W fun e w' => e = .returned (.bool false) ∧ Below W.heap.size W w') := fun p c W g => by rw [← hma]; exact Right11_ref p _ c _ W g
                    clear hma
                    generalize addA s t (rr + 1) m = A at *
                    generalize A.length = nA at *
                    by_cases m1 : m < 1
                    · have HNO : Hid (okMov s t ((rr : Int) + 1) q m = false) := by
                        unfold Hid
                        rw [Bool.eq_false_iff]
                        intro h
                        have := (okMov_iff.1 h).2.2.2.2
                        omega
                      go_wp2_with (first | (go_at_call 9; refine (HUP.out _ (HV.out.below BB.out)).mono ?_; rintro e wy ⟨rfl, hb⟩; replace BB := hide (bel_next BB.out hb); (try replace d0 := bcell hb d0); (try replace d1 := bcell hb d1); (try replace d2 := bcell hb d2); (try replace d3 := bcell hb d3); (try replace HN2 := hide (HN2.out.below hb)); (try replace HN3 := hide (HN3.out.below hb)); (try replace HN5 := hide (HN5.out.below hb)); (try replace HN6 := hide (HN6.out.below hb)); clear hb) | (go_at_call 14; refine (HAD.out _ (HV.out.below BB.out)).mono ?_; rintro e wy ⟨p5, c5, rfl, hnx, hcx, hb⟩; have HN5x := hide hnx; replace BB := hide (bel_next BB.out hb); (try replace d0 := bcell hb d0); (try replace d1 := bcell hb d1); (try replace d2 := bcell hb d2); (try replace d3 := bcell hb d3); (try replace HN2 := hide (HN2.out.below hb)); (try replace HN3 := hide (HN3.out.below hb)); (try replace HN6 := hide (HN6.out.below hb)); clear hb; have HN5 := HN5x; clear HN5x hnx hcx) | (go_at_call 11; refine (HRA.out p5 c5 _ HN5.out).mono ?_; rintro e wy ⟨rfl, hb⟩; replace BB := hide (bel_next BB.out hb); (try replace d0 := bcell hb d0); (try replace d1 := bcell hb d1); (try replace d2 := bcell hb d2); (try replace d3 := bcell hb d3); (try replace HN2 := hide (HN2.out.below hb)); (try replace HN3 := hide (HN3.out.below hb)); (try replace HN5 := hide (HN5.out.below hb)); (try replace HN6 := hide (HN6.out.below hb)); clear hb) | (go_at_call 10; refine (Move11_bad a n cap s _ _ _ m _ (HV.out.below BB.out) HNO.out).mono ?_; rintro e wy ⟨rfl, hb⟩; replace BB := hide (bel_next BB.out hb); (try replace d0 := bcell hb d0); (try replace d1 := bcell hb d1); (try replace d2 := bcell hb d2); (try replace d3 := bcell hb d3); (try replace HN2 := hide (HN2.out.below hb)); (try replace HN3 := hide (HN3.out.below hb)); (try replace HN5 := hide (HN5.out.below hb)); (try replace HN6 := hide (HN6.out.below hb)); clear hb) | (go_at_call 11; refine (Right11_ref a n cap s _ (HV.out.below BB.out)).mono ?_; rintro e wy ⟨rfl, hb⟩; rw [HMS.out]; replace BB := hide (bel_next BB.out hb); (try replace d0 := bcell hb d0); (try replace d1 := bcell hb d1); (try replace d2 := bcell hb d2); (try replace d3 := bcell hb d3); (try replace HN2 := hide (HN2.out.below hb)); (try replace HN3 := hide (HN3.out.below hb)); (try replace HN5 := hide (HN5.out.below hb)); (try replace HN6 := hide (HN6.out.below hb)); clear hb) | (go_at_call 13; refine (Check11_any a n cap s _ (HV.out.below BB.out)).mono ?_; rintro e wy ⟨rfl, hb⟩; rw [HCK.out]; replace BB := hide (bel_next BB.out hb); (try replace d0 := bcell hb d0); (try replace d1 := bcell hb d1); (try replace d2 := bcell hb d2); (try replace d3 := bcell hb d3); (try replace HN2 := hide (HN2.out.below hb)); (try replace HN3 := hide (HN3.out.below hb)); (try replace HN5 := hide (HN5.out.below hb)); (try replace HN6 := hide (HN6.out.below hb)); clear hb) | (go_at_call 12; refine (there11 _ _).mono ?_; rintro e wy ⟨rfl, rfl⟩; (first | rw [HR.out] | rw [HQ.out])) | (go_at_call 8; refine (awake11 _).mono ?_; rintro e wz ⟨rfl, hb⟩))
                      go_ret
                      exact ⟨by first | rfl | (simp; omega) | (simp [*]), bel_next BB.out hb⟩
                    · rcases hq : okRep q with _ | _
                      · have HQ := hide hq
                        have HNO : Hid (okMov s t ((rr : Int) + 1) q m = false) := by
                          unfold Hid
                          rw [Bool.eq_false_iff]
                          intro h
                          have := (okMov_iff.1 h).2.2.2.1
                          rw [hq] at this
                          cases this
                        clear hq
                        go_wp2_with (first | (go_at_call 9; refine (HUP.out _ (HV.out.below BB.out)).mono ?_; rintro e wy ⟨rfl, hb⟩; replace BB := hide (bel_next BB.out hb); (try replace d0 := bcell hb d0); (try replace d1 := bcell hb d1); (try replace d2 := bcell hb d2); (try replace d3 := bcell hb d3); (try replace HN2 := hide (HN2.out.below hb)); (try replace HN3 := hide (HN3.out.below hb)); (try replace HN5 := hide (HN5.out.below hb)); (try replace HN6 := hide (HN6.out.below hb)); clear hb) | (go_at_call 14; refine (HAD.out _ (HV.out.below BB.out)).mono ?_; rintro e wy ⟨p5, c5, rfl, hnx, hcx, hb⟩; have HN5x := hide hnx; replace BB := hide (bel_next BB.out hb); (try replace d0 := bcell hb d0); (try replace d1 := bcell hb d1); (try replace d2 := bcell hb d2); (try replace d3 := bcell hb d3); (try replace HN2 := hide (HN2.out.below hb)); (try replace HN3 := hide (HN3.out.below hb)); (try replace HN6 := hide (HN6.out.below hb)); clear hb; have HN5 := HN5x; clear HN5x hnx hcx) | (go_at_call 11; refine (HRA.out p5 c5 _ HN5.out).mono ?_; rintro e wy ⟨rfl, hb⟩; replace BB := hide (bel_next BB.out hb); (try replace d0 := bcell hb d0); (try replace d1 := bcell hb d1); (try replace d2 := bcell hb d2); (try replace d3 := bcell hb d3); (try replace HN2 := hide (HN2.out.below hb)); (try replace HN3 := hide (HN3.out.below hb)); (try replace HN5 := hide (HN5.out.below hb)); (try replace HN6 := hide (HN6.out.below hb)); clear hb) | (go_at_call 10; refine (Move11_bad a n cap s _ _ _ m _ (HV.out.below BB.out) HNO.out).mono ?_; rintro e wy ⟨rfl, hb⟩; replace BB := hide (bel_next BB.out hb); (try replace d0 := bcell hb d0); (try replace d1 := bcell hb d1); (try replace d2 := bcell hb d2); (try replace d3 := bcell hb d3); (try replace HN2 := hide (HN2.out.below hb)); (try replace HN3 := hide (HN3.out.below hb)); (try replace HN5 := hide (HN5.out.below hb)); (try replace HN6 := hide (HN6.out.below hb)); clear hb) | (go_at_call 11; refine (Right11_ref a n cap s _ (HV.out.below BB.out)).mono ?_; rintro e wy ⟨rfl, hb⟩; rw [HMS.out]; replace BB := hide (bel_next BB.out hb); (try replace d0 := bcell hb d0); (try replace d1 := bcell hb d1); (try replace d2 := bcell hb d2); (try replace d3 := bcell hb d3); (try replace HN2 := hide (HN2.out.below hb)); (try replace HN3 := hide (HN3.out.below hb)); (try replace HN5 := hide (HN5.out.below hb)); (try replace HN6 := hide (HN6.out.below hb)); clear hb) | (go_at_call 13; refine (Check11_any a n cap s _ (HV.out.below BB.out)).mono ?_; rintro e wy ⟨rfl, hb⟩; rw [HCK.out]; replace BB := hide (bel_next BB.out hb); (try replace d0 := bcell hb d0); (try replace d1 := bcell hb d1); (try replace d2 := bcell hb d2); (try replace d3 := bcell hb d3); (try replace HN2 := hide (HN2.out.below hb)); (try replace HN3 := hide (HN3.out.below hb)); (try replace HN5 := hide (HN5.out.below hb)); (try replace HN6 := hide (HN6.out.below hb)); clear hb) | (go_at_call 12; refine (there11 _ _).mono ?_; rintro e wy ⟨rfl, rfl⟩; (first | rw [HR.out] | rw [HQ.out])) | (go_at_call 8; refine (awake11 _).mono ?_; rintro e wz ⟨rfl, hb⟩))
                        go_ret
                        exact ⟨by first | rfl | (simp; omega) | (simp [*]), bel_next BB.out hb⟩
                      · have HQ0 := hide hq
                        obtain ⟨qq, hqq, rfl⟩ := repN hq
                        have HQ := HQ0
                        clear HQ0 hq
                        by_cases hrq : qq = rr
                        · subst hrq
                          have HB0 : Hid (movA s t (qq + 1) (qq + 1) m = s) := by unfold Hid movA; rw [if_pos rfl]
                          have HMV : Hid (∀ W, AC W a n s → Calls Try.prog 10 #[.slice a n cap, .string t, .int .i64 ((qq : Int) + 1), .int .i64 ((qq : Int) + 1), .int .i64 m] W fun e w' => ∃ p cp, e = .returned (.tuple #[.slice p n cp, .int .i64 0]) ∧ AC w' p n s ∧ CP p n cp ∧ Below W.heap.size W w') := fun W g => by
                            have := Move11_good a n cap s t qq qq hqq hqq m (by omega) W g HCP.out HMS.out HKT.out (by rw [HB0.out]; exact HMS.out)
                            rw [HB0.out, HLEN.out] at this
                            exact this
                          clear HB0
                          go_upto_region 18 with (first | (go_at_call 9; refine (HUP.out _ (HV.out.below BB.out)).mono ?_; rintro e wy ⟨rfl, hb⟩; replace BB := hide (bel_next BB.out hb); (try replace d0 := bcell hb d0); (try replace d1 := bcell hb d1); (try replace d2 := bcell hb d2); (try replace d3 := bcell hb d3); (try replace HN2 := hide (HN2.out.below hb)); (try replace HN3 := hide (HN3.out.below hb)); (try replace HN5 := hide (HN5.out.below hb)); (try replace HN6 := hide (HN6.out.below hb)); clear hb) | (go_at_call 14; refine (HAD.out _ (HV.out.below BB.out)).mono ?_; rintro e wy ⟨p5, c5, rfl, hnx, hcx, hb⟩; have HN5x := hide hnx; replace BB := hide (bel_next BB.out hb); (try replace d0 := bcell hb d0); (try replace d1 := bcell hb d1); (try replace d2 := bcell hb d2); (try replace d3 := bcell hb d3); (try replace HN2 := hide (HN2.out.below hb)); (try replace HN3 := hide (HN3.out.below hb)); (try replace HN6 := hide (HN6.out.below hb)); clear hb; have HN5 := HN5x; clear HN5x hnx hcx) | (go_at_call 11; refine (HRA.out p5 c5 _ HN5.out).mono ?_; rintro e wy ⟨rfl, hb⟩; replace BB := hide (bel_next BB.out hb); (try replace d0 := bcell hb d0); (try replace d1 := bcell hb d1); (try replace d2 := bcell hb d2); (try replace d3 := bcell hb d3); (try replace HN2 := hide (HN2.out.below hb)); (try replace HN3 := hide (HN3.out.below hb)); (try replace HN5 := hide (HN5.out.below hb)); (try replace HN6 := hide (HN6.out.below hb)); clear hb) | (go_at_call 10; refine (HMV.out _ (HV.out.below BB.out)).mono ?_; rintro e wy ⟨p3, c3, rfl, hnx, hcx, hb⟩; have HN3x := hide hnx; replace BB := hide (bel_next BB.out hb); (try replace d0 := bcell hb d0); (try replace d1 := bcell hb d1); (try replace d2 := bcell hb d2); (try replace d3 := bcell hb d3); (try replace HN2 := hide (HN2.out.below hb)); (try replace HN5 := hide (HN5.out.below hb)); (try replace HN6 := hide (HN6.out.below hb)); clear hb; have HN3 := HN3x; clear HN3x hnx hcx) | (go_at_call 11; refine (Right11_ref a n cap s _ (HV.out.below BB.out)).mono ?_; rintro e wy ⟨rfl, hb⟩; rw [HMS.out]; replace BB := hide (bel_next BB.out hb); (try replace d0 := bcell hb d0); (try replace d1 := bcell hb d1); (try replace d2 := bcell hb d2); (try replace d3 := bcell hb d3); (try replace HN2 := hide (HN2.out.below hb)); (try replace HN3 := hide (HN3.out.below hb)); (try replace HN5 := hide (HN5.out.below hb)); (try replace HN6 := hide (HN6.out.below hb)); clear hb) | (go_at_call 13; refine (Check11_any a n cap s _ (HV.out.below BB.out)).mono ?_; rintro e wy ⟨rfl, hb⟩; rw [HCK.out]; replace BB := hide (bel_next BB.out hb); (try replace d0 := bcell hb d0); (try replace d1 := bcell hb d1); (try replace d2 := bcell hb d2); (try replace d3 := bcell hb d3); (try replace HN2 := hide (HN2.out.below hb)); (try replace HN3 := hide (HN3.out.below hb)); (try replace HN5 := hide (HN5.out.below hb)); (try replace HN6 := hide (HN6.out.below hb)); clear hb) | (go_at_call 12; refine (there11 _ _).mono ?_; rintro e wy ⟨rfl, rfl⟩; (first | rw [HR.out] | rw [HQ.out])))
                          go_wp2_with (first | (go_at_call 11; refine (Right11_ref a n cap s _ (HV.out.below BB.out)).mono ?_; rintro e wy ⟨rfl, hb⟩; rw [HMS.out]; replace BB := hide (bel_next BB.out hb); (try replace d0 := bcell hb d0); (try replace d1 := bcell hb d1); (try replace d2 := bcell hb d2); (try replace d3 := bcell hb d3); (try replace HN2 := hide (HN2.out.below hb)); (try replace HN3 := hide (HN3.out.below hb)); (try replace HN5 := hide (HN5.out.below hb)); (try replace HN6 := hide (HN6.out.below hb)); clear hb) | (go_at_call 15; refine (Same11_ref p3 n c3 s a n cap s _ HN3.out (HV.out.below BB.out)).mono ?_; rintro e wy ⟨rfl, hb⟩; rw [decide_eq_true (rfl : s = s)]; replace BB := hide (bel_next BB.out hb); (try replace d0 := bcell hb d0); (try replace d1 := bcell hb d1); (try replace d2 := bcell hb d2); (try replace d3 := bcell hb d3); (try replace HN2 := hide (HN2.out.below hb)); (try replace HN3 := hide (HN3.out.below hb)); (try replace HN5 := hide (HN5.out.below hb)); (try replace HN6 := hide (HN6.out.below hb)); clear hb) | (go_at_call 8; refine (awake11 _).mono ?_; rintro e wz ⟨rfl, hb⟩))
                          go_ret
                          exact ⟨by first | rfl | (simp; omega) | (simp [*]), bel_next BB.out hb⟩
                        · have hb1 : (((qq : Int) + 1) == ((rr : Int) + 1)) = false := by rw [beq_eq_false_iff_ne]; omega
                          have hb2 : ¬ ((qq : Int) + 1 = (rr : Int) + 1) := by omega
                          have hb3 : ((qq : Int) == (rr : Int)) = false := by rw [beq_eq_false_iff_ne]; omega
                          have hb4 : ¬ ((qq : Int) = (rr : Int)) := by omega
                          have hb5 : (((qq : Int) + 1) != ((rr : Int) + 1)) = true := by unfold bne; rw [hb1]; rfl
                          have hb6 : ((qq : Int) != (rr : Int)) = true := by unfold bne; rw [hb3]; rfl
                          have hwn : IntKind.i64.wrap (-m) = -m := by rw [IntKind.wrap_i64]; omega
                          have HB0 : Hid (movA s t (rr + 1) (qq + 1) m = addA (addA s t (rr + 1) (-m)) t (qq + 1) m) := by unfold Hid movA; rw [if_neg (by omega)]
                          have HA1 : Hid (∀ W, AC W a n s → Calls Try.prog 14 #[.slice a n cap, .string t, .int .i64 ((rr : Int) + 1), .int .i64 (-m)] W fun e w' => ∃ p cp, e = .returned (.slice p (addA s t (rr + 1) (-m)).length cp) ∧ AC w' p (addA s t (rr + 1) (-m)).length (addA s t (rr + 1) (-m)) ∧ CP p (addA s t (rr + 1) (-m)).length cp ∧ Below W.heap.size W w') := fun W g => Add11_ref a n cap s t rr hrr (-m) (by omega) W g HPS.out.1 (by omega) (bd41_of (havA_may HMS.out t))
                          have HA2 : Hid (∀ p c W, AC W p (addA s t (rr + 1) (-m)).length (addA s t (rr + 1) (-m)) → Calls Try.prog 14 #[.slice p (addA s t (rr + 1) (-m)).length c, .string t, .int .i64 ((qq : Int) + 1), .int .i64 m] W fun e w' => ∃ p cp, e = .returned (.slice p (addA (addA s t (rr + 1) (-m)) t (qq + 1) m).length cp) ∧ AC w' p (addA (addA s t (rr + 1) (-m)) t (qq + 1) m).length (addA (addA s t (rr + 1) (-m)) t (qq + 1) m) ∧ CP p (addA (addA s t (rr + 1) (-m)) t (qq + 1) m).length cp ∧ Below W.heap.size W w') := fun p c W g => Add11_ref p _ c (addA s t (rr + 1) (-m)) t qq hqq m (by omega) W g (addA_srt HPS.out.1 t _ _) (by
                            have h1 := setA_len s t (incA (havA s t) (rr + 1) (-m))
                            have h2 := HLEN.out
                            show (setA s t (incA (havA s t) (rr + 1) (-m))).length ≤ 100000
                            omega) (by
                            rw [havA_add HPS.out.1 HPS.out.2.1, if_pos rfl]
                            exact inc_bd41 (havA_len HPS.out.2.1 t) (havA_may HMS.out t) (by omega) (by omega))
                          rcases hmb : mayA (addA (addA s t (rr + 1) (-m)) t (qq + 1) m) with _ | _
                          · have HMV := hide (fun W (g : AC W a n s) => Move11_full a n cap s t rr qq hrr hqq m (by omega) W g HCP.out HMS.out HKT.out (by rw [HB0.out]; exact hmb))
                            have HRB : Hid (∀ p c W, AC W p (addA (addA s t (rr + 1) (-m)) t (qq + 1) m).length (addA (addA s t (rr + 1) (-m)) t (qq + 1) m) → Calls Try.prog 11 #[.slice p (addA (addA s t (rr + 1) (-m)) t (qq + 1) m).length c] W fun e w' => e = .returned (.bool false) ∧ Below W.heap.size W w') := fun p c W g => by rw [← hmb]; exact Right11_ref p _ c _ W g
                            clear hmb HB0
                            generalize addA (addA s t (rr + 1) (-m)) t (qq + 1) m = B at *
                            generalize B.length = nB at *
                            generalize (addA s t (rr + 1) (-m)).length = nM at *
                            generalize addA s t (rr + 1) (-m) = M at *
                            go_upto_region 19 with (first | (go_at_call 9; refine (HUP.out _ (HV.out.below BB.out)).mono ?_; rintro e wy ⟨rfl, hb⟩; replace BB := hide (bel_next BB.out hb); (try replace d0 := bcell hb d0); (try replace d1 := bcell hb d1); (try replace d2 := bcell hb d2); (try replace d3 := bcell hb d3); (try replace HN2 := hide (HN2.out.below hb)); (try replace HN3 := hide (HN3.out.below hb)); (try replace HN5 := hide (HN5.out.below hb)); (try replace HN6 := hide (HN6.out.below hb)); clear hb) | (go_at_call 14; refine (HAD.out _ (HV.out.below BB.out)).mono ?_; rintro e wy ⟨p5, c5, rfl, hnx, hcx, hb⟩; have HN5x := hide hnx; replace BB := hide (bel_next BB.out hb); (try replace d0 := bcell hb d0); (try replace d1 := bcell hb d1); (try replace d2 := bcell hb d2); (try replace d3 := bcell hb d3); (try replace HN2 := hide (HN2.out.below hb)); (try replace HN3 := hide (HN3.out.below hb)); (try replace HN6 := hide (HN6.out.below hb)); clear hb; have HN5 := HN5x; clear HN5x hnx hcx) | (go_at_call 11; refine (HRA.out p5 c5 _ HN5.out).mono ?_; rintro e wy ⟨rfl, hb⟩; replace BB := hide (bel_next BB.out hb); (try replace d0 := bcell hb d0); (try replace d1 := bcell hb d1); (try replace d2 := bcell hb d2); (try replace d3 := bcell hb d3); (try replace HN2 := hide (HN2.out.below hb)); (try replace HN3 := hide (HN3.out.below hb)); (try replace HN5 := hide (HN5.out.below hb)); (try replace HN6 := hide (HN6.out.below hb)); clear hb) | (go_at_call 10; refine (HMV.out _ (HV.out.below BB.out)).mono ?_; rintro e wy ⟨rfl, hb⟩; replace BB := hide (bel_next BB.out hb); (try replace d0 := bcell hb d0); (try replace d1 := bcell hb d1); (try replace d2 := bcell hb d2); (try replace d3 := bcell hb d3); (try replace HN2 := hide (HN2.out.below hb)); (try replace HN3 := hide (HN3.out.below hb)); (try replace HN5 := hide (HN5.out.below hb)); (try replace HN6 := hide (HN6.out.below hb)); clear hb) | (go_at_call 11; refine (Right11_ref a n cap s _ (HV.out.below BB.out)).mono ?_; rintro e wy ⟨rfl, hb⟩; rw [HMS.out]; replace BB := hide (bel_next BB.out hb); (try replace d0 := bcell hb d0); (try replace d1 := bcell hb d1); (try replace d2 := bcell hb d2); (try replace d3 := bcell hb d3); (try replace HN2 := hide (HN2.out.below hb)); (try replace HN3 := hide (HN3.out.below hb)); (try replace HN5 := hide (HN5.out.below hb)); (try replace HN6 := hide (HN6.out.below hb)); clear hb) | (go_at_call 13; refine (Check11_any a n cap s _ (HV.out.below BB.out)).mono ?_; rintro e wy ⟨rfl, hb⟩; rw [HCK.out]; replace BB := hide (bel_next BB.out hb); (try replace d0 := bcell hb d0); (try replace d1 := bcell hb d1); (try replace d2 := bcell hb d2); (try replace d3 := bcell hb d3); (try replace HN2 := hide (HN2.out.below hb)); (try replace HN3 := hide (HN3.out.below hb)); (try replace HN5 := hide (HN5.out.below hb)); (try replace HN6 := hide (HN6.out.below hb)); clear hb) | (go_at_call 12; refine (there11 _ _).mono ?_; rintro e wy ⟨rfl, rfl⟩; (first | rw [HR.out] | rw [HQ.out])))
                            generalize w.heap.size = gb at d0 d1 d2 d3
                            generalize hwu : wy = u at *
                            clear hwu
                            refine wp_region_held_drew (S := fun W => Below u.heap.size u W) (by kernel_rfl) ((Below.refl _ u).drew) (fun hS0 => ?_)
                            refine takeInH 0 154 ?v47 rfl rfl (by kernel_rfl) (by kernel_rfl) (by kernel_rfl) (fun _ _ _ h => h) (by kernel_rfl) hS0 ?hy47 ?_
                            case hy47 => (intro W hW; clear hW; go_simp; try rfl)
                            simp only [Act.put, List.setIfInBounds_toArray, List.set_cons_zero, List.set_cons_succ]
                            refine takeInH 1 155 ?v48 rfl rfl (by kernel_rfl) (by kernel_rfl) (by kernel_rfl) (fun _ _ _ h => h) (by kernel_rfl) hS0 ?hy48 ?_
                            case hy48 => (intro W hW; clear hW; go_simp; try rfl)
                            simp only [Act.put, List.setIfInBounds_toArray, List.set_cons_zero, List.set_cons_succ]
                            refine takeInH 2 156 ?v49 rfl rfl (by kernel_rfl) (by kernel_rfl) (by kernel_rfl) (fun _ _ _ h => h) (by kernel_rfl) hS0 ?hy49 ?_
                            case hy49 => (intro W hW; have e0 := bcell hW d0; have e1 := bcell hW d1; have e2 := bcell hW d2; have e3 := bcell hW d3; clear hW; go_simp; try rfl)
                            simp only [Act.put, List.setIfInBounds_toArray, List.set_cons_zero, List.set_cons_succ]
                            refine takeInH 3 157 ?v50 rfl rfl (by kernel_rfl) (by kernel_rfl) (by kernel_rfl) (fun _ _ _ h => h) (by kernel_rfl) hS0 ?hy50 ?_
                            case hy50 => (intro W hW; clear hW; go_simp; try rfl)
                            simp only [Act.put, List.setIfInBounds_toArray, List.set_cons_zero, List.set_cons_succ]
                            refine takeInH 4 158 ?v51 rfl rfl (by kernel_rfl) (by kernel_rfl) (by kernel_rfl) (fun _ _ _ h => h) (by kernel_rfl) hS0 ?hy51 ?_
                            case hy51 => (intro W hW; have e0 := bcell hW d0; have e1 := bcell hW d1; have e2 := bcell hW d2; have e3 := bcell hW d3; clear hW; go_simp; try rfl)
                            simp only [Act.put, List.setIfInBounds_toArray, List.set_cons_zero, List.set_cons_succ]
                            refine takeInH 5 159 ?v52 rfl rfl (by kernel_rfl) (by kernel_rfl) (by kernel_rfl) (fun _ _ _ h => h) (by kernel_rfl) hS0 ?hy52 ?_
                            case hy52 => (intro W hW; clear hW; go_simp; try rfl)
                            simp only [Act.put, List.setIfInBounds_toArray, List.set_cons_zero, List.set_cons_succ]
                            refine takeInH 6 160 ?v53 rfl rfl (by kernel_rfl) (by kernel_rfl) (by kernel_rfl) (fun _ _ _ h => h) (by kernel_rfl) hS0 ?hy53 ?_
                            case hy53 => (intro W hW; have e0 := bcell hW d0; have e1 := bcell hW d1; have e2 := bcell hW d2; have e3 := bcell hW d3; clear hW; go_simp; try rfl)
                            simp only [Act.put, List.setIfInBounds_toArray, List.set_cons_zero, List.set_cons_succ]
                            refine takeInH 7 161 ?v54 rfl rfl (by kernel_rfl) (by kernel_rfl) (by kernel_rfl) (fun _ _ _ h => h) (by kernel_rfl) hS0 ?hy54 ?_
                            case hy54 => (intro W hW; clear hW; go_simp; try rfl)
                            simp only [Act.put, List.setIfInBounds_toArray, List.set_cons_zero, List.set_cons_succ]
                            refine takeInH 9 163 ?v55 rfl rfl (by kernel_rfl) (by kernel_rfl) (by kernel_rfl) (fun _ _ _ h => h) (by kernel_rfl) hS0 ?hy55 ?_
                            case hy55 => (intro W hW; clear hW; go_simp; try rfl)
                            simp only [Act.put, List.setIfInBounds_toArray, List.set_cons_zero, List.set_cons_succ]
                            refine takeInH 10 164 ?v56 rfl rfl (by kernel_rfl) (by kernel_rfl) (by kernel_rfl) (fun _ _ _ h => h) (by kernel_rfl) hS0 ?hy56 ?_
                            case hy56 => (intro W hW; have e0 := bcell hW d0; have e1 := bcell hW d1; have e2 := bcell hW d2; have e3 := bcell hW d3; clear hW; go_simp; try rfl)
                            simp only [Act.put, List.setIfInBounds_toArray, List.set_cons_zero, List.set_cons_succ]
                            refine takeInH 11 165 ?v57 rfl rfl (by kernel_rfl) (by kernel_rfl) (by kernel_rfl) (fun _ _ _ h => h) (by kernel_rfl) hS0 ?hy57 ?_
                            case hy57 => (intro W hW; clear hW; go_simp; try rfl)
                            simp only [Act.put, List.setIfInBounds_toArray, List.set_cons_zero, List.set_cons_succ]
                            refine takeInH 12 166 ?v58 rfl rfl (by kernel_rfl) (by kernel_rfl) (by kernel_rfl) (fun _ _ _ h => h) (by kernel_rfl) hS0 ?hy58 ?_
                            case hy58 => (intro W hW; have e0 := bcell hW d0; have e1 := bcell hW d1; have e2 := bcell hW d2; have e3 := bcell hW d3; clear hW; go_simp; try rfl)
                            simp only [Act.put, List.setIfInBounds_toArray, List.set_cons_zero, List.set_cons_succ]
                            refine takeInH 13 167 ?v59 rfl rfl (by kernel_rfl) (by kernel_rfl) (by kernel_rfl) (fun _ _ _ h => h) (by kernel_rfl) hS0 ?hy59 ?_
                            case hy59 => (intro W hW; clear hW; go_simp; try rfl)
                            simp only [Act.put, List.setIfInBounds_toArray, List.set_cons_zero, List.set_cons_succ]
                            refine takeInH 14 168 ?v60 rfl rfl (by kernel_rfl) (by kernel_rfl) (by kernel_rfl) (fun _ _ _ h => h) (by kernel_rfl) hS0 ?hy60 ?_
                            case hy60 => (intro W hW; have e0 := bcell hW d0; have e1 := bcell hW d1; have e2 := bcell hW d2; have e3 := bcell hW d3; clear hW; go_simp; try rfl)
                            simp only [Act.put, List.setIfInBounds_toArray, List.set_cons_zero, List.set_cons_succ]
                            refine wpAnyH_ready (rs := [8]) (by kernel_rfl) (by simp) ?_
                            refine AllReadyH.cons rfl (fun K hK => ?_) AllReadyH.nil
                            go_simp
                            refine (HA1.out _ (HV.out.below (bel_next BB.out hS0))).mono ?_
                            rintro e wy ⟨p7, c7, rfl, hn7, hc7, hb⟩
                            have HN7 := hide hn7
                            clear hn7 hc7
                            refine hK.out _ _ ?hs61 (fun hS1 => ?_)
                            case hs61 => exact bel_next hS0 hb
                            clear hK K hb
                            try simp only [Act.put, List.setIfInBounds_toArray, List.set_cons_zero, List.set_cons_succ]
                            refine wpAnyH_ready (rs := [15]) (by kernel_rfl) (by simp) ?_
                            refine AllReadyH.cons rfl (fun K hK => ?_) AllReadyH.nil
                            go_simp
                            refine (HA2.out p7 c7 _ HN7.out).mono ?_
                            rintro e wy ⟨p6, c6, rfl, hn6, hc6, hb⟩
                            have HN6 := hide hn6
                            clear hn6 hc6
                            refine hK.out _ _ ?hs62 (fun hS2 => ?_)
                            case hs62 => exact bel_next hS1 hb
                            clear hK K hb
                            try simp only [Act.put, List.setIfInBounds_toArray, List.set_cons_zero, List.set_cons_succ]
                            refine takeInH 16 12 ?v63 rfl rfl (by kernel_rfl) (by kernel_rfl) (by kernel_rfl) (fun _ _ _ h => h) (by kernel_rfl) hS2 ?hy63 ?_
                            case hy63 => (intro W hW; clear hW; go_simp; try rfl)
                            simp only [Act.put, List.setIfInBounds_toArray, List.set_cons_zero, List.set_cons_succ]
                            refine wpAnyH_done (by kernel_rfl) ?_ _
                            replace d0 := bcell hS2 d0
                            replace BB := hide (bel_next BB.out hS2)
                            skip
                            clear hS2
                            go_wp2_with (first | (go_at_call 11; refine (HRB.out p6 c6 _ HN6.out).mono ?_; rintro e wy ⟨rfl, hb⟩; replace BB := hide (bel_next BB.out hb); (try replace d0 := bcell hb d0); (try replace d1 := bcell hb d1); (try replace d2 := bcell hb d2); (try replace d3 := bcell hb d3); (try replace HN2 := hide (HN2.out.below hb)); (try replace HN3 := hide (HN3.out.below hb)); (try replace HN5 := hide (HN5.out.below hb)); (try replace HN6 := hide (HN6.out.below hb)); clear hb) | (go_at_call 8; refine (awake11 _).mono ?_; rintro e wz ⟨rfl, hb⟩))
                            go_ret
                            exact ⟨by first | rfl | (simp; omega) | (simp [*]), bel_next BB.out hb⟩
                          · have HMV : Hid (∀ W, AC W a n s → Calls Try.prog 10 #[.slice a n cap, .string t, .int .i64 ((rr : Int) + 1), .int .i64 ((qq : Int) + 1), .int .i64 m] W fun e w' => ∃ p cp, e = .returned (.tuple #[.slice p (addA (addA s t (rr + 1) (-m)) t (qq + 1) m).length cp, .int .i64 0]) ∧ AC w' p (addA (addA s t (rr + 1) (-m)) t (qq + 1) m).length (addA (addA s t (rr + 1) (-m)) t (qq + 1) m) ∧ CP p (addA (addA s t (rr + 1) (-m)) t (qq + 1) m).length cp ∧ Below W.heap.size W w') := fun W g => by
                              have := Move11_good a n cap s t rr qq hrr hqq m (by omega) W g HCP.out HMS.out HKT.out (by rw [HB0.out]; exact hmb)
                              rw [HB0.out] at this
                              exact this
                            have HRB : Hid (∀ p c W, AC W p (addA (addA s t (rr + 1) (-m)) t (qq + 1) m).length (addA (addA s t (rr + 1) (-m)) t (qq + 1) m) → Calls Try.prog 11 #[.slice p (addA (addA s t (rr + 1) (-m)) t (qq + 1) m).length c] W fun e w' => e = .returned (.bool true) ∧ Below W.heap.size W w') := fun p c W g => by rw [← hmb]; exact Right11_ref p _ c _ W g
                            clear hmb HB0
                            generalize addA (addA s t (rr + 1) (-m)) t (qq + 1) m = B at *
                            generalize B.length = nB at *
                            generalize (addA s t (rr + 1) (-m)).length = nM at *
                            generalize addA s t (rr + 1) (-m) = M at *
                            go_upto_region 19 with (first | (go_at_call 9; refine (HUP.out _ (HV.out.below BB.out)).mono ?_; rintro e wy ⟨rfl, hb⟩; replace BB := hide (bel_next BB.out hb); (try replace d0 := bcell hb d0); (try replace d1 := bcell hb d1); (try replace d2 := bcell hb d2); (try replace d3 := bcell hb d3); (try replace HN2 := hide (HN2.out.below hb)); (try replace HN3 := hide (HN3.out.below hb)); (try replace HN5 := hide (HN5.out.below hb)); (try replace HN6 := hide (HN6.out.below hb)); clear hb) | (go_at_call 14; refine (HAD.out _ (HV.out.below BB.out)).mono ?_; rintro e wy ⟨p5, c5, rfl, hnx, hcx, hb⟩; have HN5x := hide hnx; replace BB := hide (bel_next BB.out hb); (try replace d0 := bcell hb d0); (try replace d1 := bcell hb d1); (try replace d2 := bcell hb d2); (try replace d3 := bcell hb d3); (try replace HN2 := hide (HN2.out.below hb)); (try replace HN3 := hide (HN3.out.below hb)); (try replace HN6 := hide (HN6.out.below hb)); clear hb; have HN5 := HN5x; clear HN5x hnx hcx) | (go_at_call 11; refine (HRA.out p5 c5 _ HN5.out).mono ?_; rintro e wy ⟨rfl, hb⟩; replace BB := hide (bel_next BB.out hb); (try replace d0 := bcell hb d0); (try replace d1 := bcell hb d1); (try replace d2 := bcell hb d2); (try replace d3 := bcell hb d3); (try replace HN2 := hide (HN2.out.below hb)); (try replace HN3 := hide (HN3.out.below hb)); (try replace HN5 := hide (HN5.out.below hb)); (try replace HN6 := hide (HN6.out.below hb)); clear hb) | (go_at_call 10; refine (HMV.out _ (HV.out.below BB.out)).mono ?_; rintro e wy ⟨p3, c3, rfl, hnx, hcx, hb⟩; have HN3x := hide hnx; replace BB := hide (bel_next BB.out hb); (try replace d0 := bcell hb d0); (try replace d1 := bcell hb d1); (try replace d2 := bcell hb d2); (try replace d3 := bcell hb d3); (try replace HN2 := hide (HN2.out.below hb)); (try replace HN5 := hide (HN5.out.below hb)); (try replace HN6 := hide (HN6.out.below hb)); clear hb; have HN3 := HN3x; clear HN3x hnx hcx) | (go_at_call 11; refine (Right11_ref a n cap s _ (HV.out.below BB.out)).mono ?_; rintro e wy ⟨rfl, hb⟩; rw [HMS.out]; replace BB := hide (bel_next BB.out hb); (try replace d0 := bcell hb d0); (try replace d1 := bcell hb d1); (try replace d2 := bcell hb d2); (try replace d3 := bcell hb d3); (try replace HN2 := hide (HN2.out.below hb)); (try replace HN3 := hide (HN3.out.below hb)); (try replace HN5 := hide (HN5.out.below hb)); (try replace HN6 := hide (HN6.out.below hb)); clear hb) | (go_at_call 13; refine (Check11_any a n cap s _ (HV.out.below BB.out)).mono ?_; rintro e wy ⟨rfl, hb⟩; rw [HCK.out]; replace BB := hide (bel_next BB.out hb); (try replace d0 := bcell hb d0); (try replace d1 := bcell hb d1); (try replace d2 := bcell hb d2); (try replace d3 := bcell hb d3); (try replace HN2 := hide (HN2.out.below hb)); (try replace HN3 := hide (HN3.out.below hb)); (try replace HN5 := hide (HN5.out.below hb)); (try replace HN6 := hide (HN6.out.below hb)); clear hb) | (go_at_call 12; refine (there11 _ _).mono ?_; rintro e wy ⟨rfl, rfl⟩; (first | rw [HR.out] | rw [HQ.out])))
                            generalize w.heap.size = gb at d0 d1 d2 d3
                            generalize hwu : wy = u at *
                            clear hwu
                            refine wp_region_held_drew (S := fun W => Below u.heap.size u W) (by kernel_rfl) ((Below.refl _ u).drew) (fun hS0 => ?_)
                            refine takeInH 0 154 ?v64 rfl rfl (by kernel_rfl) (by kernel_rfl) (by kernel_rfl) (fun _ _ _ h => h) (by kernel_rfl) hS0 ?hy64 ?_
                            case hy64 => (intro W hW; clear hW; go_simp; try rfl)
                            simp only [Act.put, List.setIfInBounds_toArray, List.set_cons_zero, List.set_cons_succ]
                            refine takeInH 1 155 ?v65 rfl rfl (by kernel_rfl) (by kernel_rfl) (by kernel_rfl) (fun _ _ _ h => h) (by kernel_rfl) hS0 ?hy65 ?_
                            case hy65 => (intro W hW; clear hW; go_simp; try rfl)
                            simp only [Act.put, List.setIfInBounds_toArray, List.set_cons_zero, List.set_cons_succ]
                            refine takeInH 2 156 ?v66 rfl rfl (by kernel_rfl) (by kernel_rfl) (by kernel_rfl) (fun _ _ _ h => h) (by kernel_rfl) hS0 ?hy66 ?_
                            case hy66 => (intro W hW; have e0 := bcell hW d0; have e1 := bcell hW d1; have e2 := bcell hW d2; have e3 := bcell hW d3; clear hW; go_simp; try rfl)
                            simp only [Act.put, List.setIfInBounds_toArray, List.set_cons_zero, List.set_cons_succ]
                            refine takeInH 3 157 ?v67 rfl rfl (by kernel_rfl) (by kernel_rfl) (by kernel_rfl) (fun _ _ _ h => h) (by kernel_rfl) hS0 ?hy67 ?_
                            case hy67 => (intro W hW; clear hW; go_simp; try rfl)
                            simp only [Act.put, List.setIfInBounds_toArray, List.set_cons_zero, List.set_cons_succ]
                            refine takeInH 4 158 ?v68 rfl rfl (by kernel_rfl) (by kernel_rfl) (by kernel_rfl) (fun _ _ _ h => h) (by kernel_rfl) hS0 ?hy68 ?_
                            case hy68 => (intro W hW; have e0 := bcell hW d0; have e1 := bcell hW d1; have e2 := bcell hW d2; have e3 := bcell hW d3; clear hW; go_simp; try rfl)
                            simp only [Act.put, List.setIfInBounds_toArray, List.set_cons_zero, List.set_cons_succ]
                            refine takeInH 5 159 ?v69 rfl rfl (by kernel_rfl) (by kernel_rfl) (by kernel_rfl) (fun _ _ _ h => h) (by kernel_rfl) hS0 ?hy69 ?_
                            case hy69 => (intro W hW; clear hW; go_simp; try rfl)
                            simp only [Act.put, List.setIfInBounds_toArray, List.set_cons_zero, List.set_cons_succ]
                            refine takeInH 6 160 ?v70 rfl rfl (by kernel_rfl) (by kernel_rfl) (by kernel_rfl) (fun _ _ _ h => h) (by kernel_rfl) hS0 ?hy70 ?_
                            case hy70 => (intro W hW; have e0 := bcell hW d0; have e1 := bcell hW d1; have e2 := bcell hW d2; have e3 := bcell hW d3; clear hW; go_simp; try rfl)
                            simp only [Act.put, List.setIfInBounds_toArray, List.set_cons_zero, List.set_cons_succ]
                            refine takeInH 7 161 ?v71 rfl rfl (by kernel_rfl) (by kernel_rfl) (by kernel_rfl) (fun _ _ _ h => h) (by kernel_rfl) hS0 ?hy71 ?_
                            case hy71 => (intro W hW; clear hW; go_simp; try rfl)
                            simp only [Act.put, List.setIfInBounds_toArray, List.set_cons_zero, List.set_cons_succ]
                            refine takeInH 9 163 ?v72 rfl rfl (by kernel_rfl) (by kernel_rfl) (by kernel_rfl) (fun _ _ _ h => h) (by kernel_rfl) hS0 ?hy72 ?_
                            case hy72 => (intro W hW; clear hW; go_simp; try rfl)
                            simp only [Act.put, List.setIfInBounds_toArray, List.set_cons_zero, List.set_cons_succ]
                            refine takeInH 10 164 ?v73 rfl rfl (by kernel_rfl) (by kernel_rfl) (by kernel_rfl) (fun _ _ _ h => h) (by kernel_rfl) hS0 ?hy73 ?_
                            case hy73 => (intro W hW; have e0 := bcell hW d0; have e1 := bcell hW d1; have e2 := bcell hW d2; have e3 := bcell hW d3; clear hW; go_simp; try rfl)
                            simp only [Act.put, List.setIfInBounds_toArray, List.set_cons_zero, List.set_cons_succ]
                            refine takeInH 11 165 ?v74 rfl rfl (by kernel_rfl) (by kernel_rfl) (by kernel_rfl) (fun _ _ _ h => h) (by kernel_rfl) hS0 ?hy74 ?_
                            case hy74 => (intro W hW; clear hW; go_simp; try rfl)
                            simp only [Act.put, List.setIfInBounds_toArray, List.set_cons_zero, List.set_cons_succ]
                            refine takeInH 12 166 ?v75 rfl rfl (by kernel_rfl) (by kernel_rfl) (by kernel_rfl) (fun _ _ _ h => h) (by kernel_rfl) hS0 ?hy75 ?_
                            case hy75 => (intro W hW; have e0 := bcell hW d0; have e1 := bcell hW d1; have e2 := bcell hW d2; have e3 := bcell hW d3; clear hW; go_simp; try rfl)
                            simp only [Act.put, List.setIfInBounds_toArray, List.set_cons_zero, List.set_cons_succ]
                            refine takeInH 13 167 ?v76 rfl rfl (by kernel_rfl) (by kernel_rfl) (by kernel_rfl) (fun _ _ _ h => h) (by kernel_rfl) hS0 ?hy76 ?_
                            case hy76 => (intro W hW; clear hW; go_simp; try rfl)
                            simp only [Act.put, List.setIfInBounds_toArray, List.set_cons_zero, List.set_cons_succ]
                            refine takeInH 14 168 ?v77 rfl rfl (by kernel_rfl) (by kernel_rfl) (by kernel_rfl) (fun _ _ _ h => h) (by kernel_rfl) hS0 ?hy77 ?_
                            case hy77 => (intro W hW; have e0 := bcell hW d0; have e1 := bcell hW d1; have e2 := bcell hW d2; have e3 := bcell hW d3; clear hW; go_simp; try rfl)
                            simp only [Act.put, List.setIfInBounds_toArray, List.set_cons_zero, List.set_cons_succ]
                            refine wpAnyH_ready (rs := [8]) (by kernel_rfl) (by simp) ?_
                            refine AllReadyH.cons rfl (fun K hK => ?_) AllReadyH.nil
                            go_simp
                            refine (HA1.out _ (HV.out.below (bel_next BB.out hS0))).mono ?_
                            rintro e wy ⟨p7, c7, rfl, hn7, hc7, hb⟩
                            have HN7 := hide hn7
                            clear hn7 hc7
                            refine hK.out _ _ ?hs78 (fun hS1 => ?_)
                            case hs78 => exact bel_next hS0 hb
                            clear hK K hb
                            try simp only [Act.put, List.setIfInBounds_toArray, List.set_cons_zero, List.set_cons_succ]
                            refine wpAnyH_ready (rs := [15]) (by kernel_rfl) (by simp) ?_
                            refine AllReadyH.cons rfl (fun K hK => ?_) AllReadyH.nil
                            go_simp
                            refine (HA2.out p7 c7 _ HN7.out).mono ?_
                            rintro e wy ⟨p6, c6, rfl, hn6, hc6, hb⟩
                            have HN6 := hide hn6
                            clear hn6 hc6
                            refine hK.out _ _ ?hs79 (fun hS2 => ?_)
                            case hs79 => exact bel_next hS1 hb
                            clear hK K hb
                            try simp only [Act.put, List.setIfInBounds_toArray, List.set_cons_zero, List.set_cons_succ]
                            refine takeInH 16 12 ?v80 rfl rfl (by kernel_rfl) (by kernel_rfl) (by kernel_rfl) (fun _ _ _ h => h) (by kernel_rfl) hS2 ?hy80 ?_
                            case hy80 => (intro W hW; clear hW; go_simp; try rfl)
                            simp only [Act.put, List.setIfInBounds_toArray, List.set_cons_zero, List.set_cons_succ]
                            refine wpAnyH_done (by kernel_rfl) ?_ _
                            replace d0 := bcell hS2 d0
                            replace BB := hide (bel_next BB.out hS2)
                            replace HN3 := hide (HN3.out.below hS2)
                            clear hS2
                            go_wp2_with (first | (go_at_call 11; refine (HRB.out p6 c6 _ HN6.out).mono ?_; rintro e wy ⟨rfl, hb⟩; replace BB := hide (bel_next BB.out hb); (try replace d0 := bcell hb d0); (try replace d1 := bcell hb d1); (try replace d2 := bcell hb d2); (try replace d3 := bcell hb d3); (try replace HN2 := hide (HN2.out.below hb)); (try replace HN3 := hide (HN3.out.below hb)); (try replace HN5 := hide (HN5.out.below hb)); (try replace HN6 := hide (HN6.out.below hb)); clear hb) | (go_at_call 15; refine (Same11_ref p3 nB c3 B p6 nB c6 B _ HN3.out HN6.out).mono ?_; rintro e wy ⟨rfl, hb⟩; rw [decide_eq_true (rfl : B = B)]; replace BB := hide (bel_next BB.out hb); (try replace d0 := bcell hb d0); (try replace d1 := bcell hb d1); (try replace d2 := bcell hb d2); (try replace d3 := bcell hb d3); (try replace HN2 := hide (HN2.out.below hb)); (try replace HN3 := hide (HN3.out.below hb)); (try replace HN5 := hide (HN5.out.below hb)); (try replace HN6 := hide (HN6.out.below hb)); clear hb) | (go_at_call 8; refine (awake11 _).mono ?_; rintro e wz ⟨rfl, hb⟩))
                            go_ret
                            exact ⟨by first | rfl | (simp; omega) | (simp [*]), bel_next BB.out hb⟩
                  · skip
                    have HUP : Hid (∀ W, AC W a n s → Calls Try.prog 9 #[.slice a n cap, .string t, .int .i64 ((rr : Int) + 1), .int .i64 m] W fun e w' => ∃ p cp, e = .returned (.tuple #[.slice p (addA s t (rr + 1) m).length cp, .int .i64 0]) ∧ AC w' p (addA s t (rr + 1) m).length (addA s t (rr + 1) m) ∧ CP p (addA s t (rr + 1) m).length cp ∧ Below W.heap.size W w') := fun W g => Up11_good a n cap s t rr hrr m (by omega) W g HCP.out HMS.out HKT.out hma
                    have HRA : Hid (∀ p c W, AC W p (addA s t (rr + 1) m).length (addA s t (rr + 1) m) → Calls Try.prog 11 #[.slice p (addA s t (rr + 1) m).length c] W fun e w' => e = .returned (.bool true) ∧ Below W.heap.size W w') := fun p c W g => by rw [← hma]; exact Right11_ref p _ c _ W g
                    clear hma
                    generalize addA s t (rr + 1) m = A at *
                    generalize A.length = nA at *
                    by_cases m1 : m < 1
                    · have HNO : Hid (okMov s t ((rr : Int) + 1) q m = false) := by
                        unfold Hid
                        rw [Bool.eq_false_iff]
                        intro h
                        have := (okMov_iff.1 h).2.2.2.2
                        omega
                      go_wp2_with (first | (go_at_call 9; refine (HUP.out _ (HV.out.below BB.out)).mono ?_; rintro e wy ⟨p2, c2, rfl, hnx, hcx, hb⟩; have HN2x := hide hnx; replace BB := hide (bel_next BB.out hb); (try replace d0 := bcell hb d0); (try replace d1 := bcell hb d1); (try replace d2 := bcell hb d2); (try replace d3 := bcell hb d3); (try replace HN3 := hide (HN3.out.below hb)); (try replace HN5 := hide (HN5.out.below hb)); (try replace HN6 := hide (HN6.out.below hb)); clear hb; have HN2 := HN2x; clear HN2x hnx hcx) | (go_at_call 14; refine (HAD.out _ (HV.out.below BB.out)).mono ?_; rintro e wy ⟨p5, c5, rfl, hnx, hcx, hb⟩; have HN5x := hide hnx; replace BB := hide (bel_next BB.out hb); (try replace d0 := bcell hb d0); (try replace d1 := bcell hb d1); (try replace d2 := bcell hb d2); (try replace d3 := bcell hb d3); (try replace HN2 := hide (HN2.out.below hb)); (try replace HN3 := hide (HN3.out.below hb)); (try replace HN6 := hide (HN6.out.below hb)); clear hb; have HN5 := HN5x; clear HN5x hnx hcx) | (go_at_call 11; refine (HRA.out p5 c5 _ HN5.out).mono ?_; rintro e wy ⟨rfl, hb⟩; replace BB := hide (bel_next BB.out hb); (try replace d0 := bcell hb d0); (try replace d1 := bcell hb d1); (try replace d2 := bcell hb d2); (try replace d3 := bcell hb d3); (try replace HN2 := hide (HN2.out.below hb)); (try replace HN3 := hide (HN3.out.below hb)); (try replace HN5 := hide (HN5.out.below hb)); (try replace HN6 := hide (HN6.out.below hb)); clear hb) | (go_at_call 15; refine (Same11_ref p2 nA c2 A p5 nA c5 A _ HN2.out HN5.out).mono ?_; rintro e wy ⟨rfl, hb⟩; rw [decide_eq_true (rfl : A = A)]; replace BB := hide (bel_next BB.out hb); (try replace d0 := bcell hb d0); (try replace d1 := bcell hb d1); (try replace d2 := bcell hb d2); (try replace d3 := bcell hb d3); (try replace HN2 := hide (HN2.out.below hb)); (try replace HN3 := hide (HN3.out.below hb)); (try replace HN5 := hide (HN5.out.below hb)); (try replace HN6 := hide (HN6.out.below hb)); clear hb) | (go_at_call 10; refine (Move11_bad a n cap s _ _ _ m _ (HV.out.below BB.out) HNO.out).mono ?_; rintro e wy ⟨rfl, hb⟩; replace BB := hide (bel_next BB.out hb); (try replace d0 := bcell hb d0); (try replace d1 := bcell hb d1); (try replace d2 := bcell hb d2); (try replace d3 := bcell hb d3); (try replace HN2 := hide (HN2.out.below hb)); (try replace HN3 := hide (HN3.out.below hb)); (try replace HN5 := hide (HN5.out.below hb)); (try replace HN6 := hide (HN6.out.below hb)); clear hb) | (go_at_call 11; refine (Right11_ref a n cap s _ (HV.out.below BB.out)).mono ?_; rintro e wy ⟨rfl, hb⟩; rw [HMS.out]; replace BB := hide (bel_next BB.out hb); (try replace d0 := bcell hb d0); (try replace d1 := bcell hb d1); (try replace d2 := bcell hb d2); (try replace d3 := bcell hb d3); (try replace HN2 := hide (HN2.out.below hb)); (try replace HN3 := hide (HN3.out.below hb)); (try replace HN5 := hide (HN5.out.below hb)); (try replace HN6 := hide (HN6.out.below hb)); clear hb) | (go_at_call 13; refine (Check11_any a n cap s _ (HV.out.below BB.out)).mono ?_; rintro e wy ⟨rfl, hb⟩; rw [HCK.out]; replace BB := hide (bel_next BB.out hb); (try replace d0 := bcell hb d0); (try replace d1 := bcell hb d1); (try replace d2 := bcell hb d2); (try replace d3 := bcell hb d3); (try replace HN2 := hide (HN2.out.below hb)); (try replace HN3 := hide (HN3.out.below hb)); (try replace HN5 := hide (HN5.out.below hb)); (try replace HN6 := hide (HN6.out.below hb)); clear hb) | (go_at_call 12; refine (there11 _ _).mono ?_; rintro e wy ⟨rfl, rfl⟩; (first | rw [HR.out] | rw [HQ.out])) | (go_at_call 8; refine (awake11 _).mono ?_; rintro e wz ⟨rfl, hb⟩))
                      go_ret
                      exact ⟨by first | rfl | (simp; omega) | (simp [*]), bel_next BB.out hb⟩
                    · rcases hq : okRep q with _ | _
                      · have HQ := hide hq
                        have HNO : Hid (okMov s t ((rr : Int) + 1) q m = false) := by
                          unfold Hid
                          rw [Bool.eq_false_iff]
                          intro h
                          have := (okMov_iff.1 h).2.2.2.1
                          rw [hq] at this
                          cases this
                        clear hq
                        go_wp2_with (first | (go_at_call 9; refine (HUP.out _ (HV.out.below BB.out)).mono ?_; rintro e wy ⟨p2, c2, rfl, hnx, hcx, hb⟩; have HN2x := hide hnx; replace BB := hide (bel_next BB.out hb); (try replace d0 := bcell hb d0); (try replace d1 := bcell hb d1); (try replace d2 := bcell hb d2); (try replace d3 := bcell hb d3); (try replace HN3 := hide (HN3.out.below hb)); (try replace HN5 := hide (HN5.out.below hb)); (try replace HN6 := hide (HN6.out.below hb)); clear hb; have HN2 := HN2x; clear HN2x hnx hcx) | (go_at_call 14; refine (HAD.out _ (HV.out.below BB.out)).mono ?_; rintro e wy ⟨p5, c5, rfl, hnx, hcx, hb⟩; have HN5x := hide hnx; replace BB := hide (bel_next BB.out hb); (try replace d0 := bcell hb d0); (try replace d1 := bcell hb d1); (try replace d2 := bcell hb d2); (try replace d3 := bcell hb d3); (try replace HN2 := hide (HN2.out.below hb)); (try replace HN3 := hide (HN3.out.below hb)); (try replace HN6 := hide (HN6.out.below hb)); clear hb; have HN5 := HN5x; clear HN5x hnx hcx) | (go_at_call 11; refine (HRA.out p5 c5 _ HN5.out).mono ?_; rintro e wy ⟨rfl, hb⟩; replace BB := hide (bel_next BB.out hb); (try replace d0 := bcell hb d0); (try replace d1 := bcell hb d1); (try replace d2 := bcell hb d2); (try replace d3 := bcell hb d3); (try replace HN2 := hide (HN2.out.below hb)); (try replace HN3 := hide (HN3.out.below hb)); (try replace HN5 := hide (HN5.out.below hb)); (try replace HN6 := hide (HN6.out.below hb)); clear hb) | (go_at_call 15; refine (Same11_ref p2 nA c2 A p5 nA c5 A _ HN2.out HN5.out).mono ?_; rintro e wy ⟨rfl, hb⟩; rw [decide_eq_true (rfl : A = A)]; replace BB := hide (bel_next BB.out hb); (try replace d0 := bcell hb d0); (try replace d1 := bcell hb d1); (try replace d2 := bcell hb d2); (try replace d3 := bcell hb d3); (try replace HN2 := hide (HN2.out.below hb)); (try replace HN3 := hide (HN3.out.below hb)); (try replace HN5 := hide (HN5.out.below hb)); (try replace HN6 := hide (HN6.out.below hb)); clear hb) | (go_at_call 10; refine (Move11_bad a n cap s _ _ _ m _ (HV.out.below BB.out) HNO.out).mono ?_; rintro e wy ⟨rfl, hb⟩; replace BB := hide (bel_next BB.out hb); (try replace d0 := bcell hb d0); (try replace d1 := bcell hb d1); (try replace d2 := bcell hb d2); (try replace d3 := bcell hb d3); (try replace HN2 := hide (HN2.out.below hb)); (try replace HN3 := hide (HN3.out.below hb)); (try replace HN5 := hide (HN5.out.below hb)); (try replace HN6 := hide (HN6.out.below hb)); clear hb) | (go_at_call 11; refine (Right11_ref a n cap s _ (HV.out.below BB.out)).mono ?_; rintro e wy ⟨rfl, hb⟩; rw [HMS.out]; replace BB := hide (bel_next BB.out hb); (try replace d0 := bcell hb d0); (try replace d1 := bcell hb d1); (try replace d2 := bcell hb d2); (try replace d3 := bcell hb d3); (try replace HN2 := hide (HN2.out.below hb)); (try replace HN3 := hide (HN3.out.below hb)); (try replace HN5 := hide (HN5.out.below hb)); (try replace HN6 := hide (HN6.out.below hb)); clear hb) | (go_at_call 13; refine (Check11_any a n cap s _ (HV.out.below BB.out)).mono ?_; rintro e wy ⟨rfl, hb⟩; rw [HCK.out]; replace BB := hide (bel_next BB.out hb); (try replace d0 := bcell hb d0); (try replace d1 := bcell hb d1); (try replace d2 := bcell hb d2); (try replace d3 := bcell hb d3); (try replace HN2 := hide (HN2.out.below hb)); (try replace HN3 := hide (HN3.out.below hb)); (try replace HN5 := hide (HN5.out.below hb)); (try replace HN6 := hide (HN6.out.below hb)); clear hb) | (go_at_call 12; refine (there11 _ _).mono ?_; rintro e wy ⟨rfl, rfl⟩; (first | rw [HR.out] | rw [HQ.out])) | (go_at_call 8; refine (awake11 _).mono ?_; rintro e wz ⟨rfl, hb⟩))
                        go_ret
                        exact ⟨by first | rfl | (simp; omega) | (simp [*]), bel_next BB.out hb⟩
                      · have HQ0 := hide hq
                        obtain ⟨qq, hqq, rfl⟩ := repN hq
                        have HQ := HQ0
                        clear HQ0 hq
                        by_cases hrq : qq = rr
                        · subst hrq
                          have HB0 : Hid (movA s t (qq + 1) (qq + 1) m = s) := by unfold Hid movA; rw [if_pos rfl]
                          have HMV : Hid (∀ W, AC W a n s → Calls Try.prog 10 #[.slice a n cap, .string t, .int .i64 ((qq : Int) + 1), .int .i64 ((qq : Int) + 1), .int .i64 m] W fun e w' => ∃ p cp, e = .returned (.tuple #[.slice p n cp, .int .i64 0]) ∧ AC w' p n s ∧ CP p n cp ∧ Below W.heap.size W w') := fun W g => by
                            have := Move11_good a n cap s t qq qq hqq hqq m (by omega) W g HCP.out HMS.out HKT.out (by rw [HB0.out]; exact HMS.out)
                            rw [HB0.out, HLEN.out] at this
                            exact this
                          clear HB0
                          go_upto_region 18 with (first | (go_at_call 9; refine (HUP.out _ (HV.out.below BB.out)).mono ?_; rintro e wy ⟨p2, c2, rfl, hnx, hcx, hb⟩; have HN2x := hide hnx; replace BB := hide (bel_next BB.out hb); (try replace d0 := bcell hb d0); (try replace d1 := bcell hb d1); (try replace d2 := bcell hb d2); (try replace d3 := bcell hb d3); (try replace HN3 := hide (HN3.out.below hb)); (try replace HN5 := hide (HN5.out.below hb)); (try replace HN6 := hide (HN6.out.below hb)); clear hb; have HN2 := HN2x; clear HN2x hnx hcx) | (go_at_call 14; refine (HAD.out _ (HV.out.below BB.out)).mono ?_; rintro e wy ⟨p5, c5, rfl, hnx, hcx, hb⟩; have HN5x := hide hnx; replace BB := hide (bel_next BB.out hb); (try replace d0 := bcell hb d0); (try replace d1 := bcell hb d1); (try replace d2 := bcell hb d2); (try replace d3 := bcell hb d3); (try replace HN2 := hide (HN2.out.below hb)); (try replace HN3 := hide (HN3.out.below hb)); (try replace HN6 := hide (HN6.out.below hb)); clear hb; have HN5 := HN5x; clear HN5x hnx hcx) | (go_at_call 11; refine (HRA.out p5 c5 _ HN5.out).mono ?_; rintro e wy ⟨rfl, hb⟩; replace BB := hide (bel_next BB.out hb); (try replace d0 := bcell hb d0); (try replace d1 := bcell hb d1); (try replace d2 := bcell hb d2); (try replace d3 := bcell hb d3); (try replace HN2 := hide (HN2.out.below hb)); (try replace HN3 := hide (HN3.out.below hb)); (try replace HN5 := hide (HN5.out.below hb)); (try replace HN6 := hide (HN6.out.below hb)); clear hb) | (go_at_call 15; refine (Same11_ref p2 nA c2 A p5 nA c5 A _ HN2.out HN5.out).mono ?_; rintro e wy ⟨rfl, hb⟩; rw [decide_eq_true (rfl : A = A)]; replace BB := hide (bel_next BB.out hb); (try replace d0 := bcell hb d0); (try replace d1 := bcell hb d1); (try replace d2 := bcell hb d2); (try replace d3 := bcell hb d3); (try replace HN2 := hide (HN2.out.below hb)); (try replace HN3 := hide (HN3.out.below hb)); (try replace HN5 := hide (HN5.out.below hb)); (try replace HN6 := hide (HN6.out.below hb)); clear hb) | (go_at_call 10; refine (HMV.out _ (HV.out.below BB.out)).mono ?_; rintro e wy ⟨p3, c3, rfl, hnx, hcx, hb⟩; have HN3x := hide hnx; replace BB := hide (bel_next BB.out hb); (try replace d0 := bcell hb d0); (try replace d1 := bcell hb d1); (try replace d2 := bcell hb d2); (try replace d3 := bcell hb d3); (try replace HN2 := hide (HN2.out.below hb)); (try replace HN5 := hide (HN5.out.below hb)); (try replace HN6 := hide (HN6.out.below hb)); clear hb; have HN3 := HN3x; clear HN3x hnx hcx) | (go_at_call 11; refine (Right11_ref a n cap s _ (HV.out.below BB.out)).mono ?_; rintro e wy ⟨rfl, hb⟩; rw [HMS.out]; replace BB := hide (bel_next BB.out hb); (try replace d0 := bcell hb d0); (try replace d1 := bcell hb d1); (try replace d2 := bcell hb d2); (try replace d3 := bcell hb d3); (try replace HN2 := hide (HN2.out.below hb)); (try replace HN3 := hide (HN3.out.below hb)); (try replace HN5 := hide (HN5.out.below hb)); (try replace HN6 := hide (HN6.out.below hb)); clear hb) | (go_at_call 13; refine (Check11_any a n cap s _ (HV.out.below BB.out)).mono ?_; rintro e wy ⟨rfl, hb⟩; rw [HCK.out]; replace BB := hide (bel_next BB.out hb); (try replace d0 := bcell hb d0); (try replace d1 := bcell hb d1); (try replace d2 := bcell hb d2); (try replace d3 := bcell hb d3); (try replace HN2 := hide (HN2.out.below hb)); (try replace HN3 := hide (HN3.out.below hb)); (try replace HN5 := hide (HN5.out.below hb)); (try replace HN6 := hide (HN6.out.below hb)); clear hb) | (go_at_call 12; refine (there11 _ _).mono ?_; rintro e wy ⟨rfl, rfl⟩; (first | rw [HR.out] | rw [HQ.out])))
                          go_wp2_with (first | (go_at_call 11; refine (Right11_ref a n cap s _ (HV.out.below BB.out)).mono ?_; rintro e wy ⟨rfl, hb⟩; rw [HMS.out]; replace BB := hide (bel_next BB.out hb); (try replace d0 := bcell hb d0); (try replace d1 := bcell hb d1); (try replace d2 := bcell hb d2); (try replace d3 := bcell hb d3); (try replace HN2 := hide (HN2.out.below hb)); (try replace HN3 := hide (HN3.out.below hb)); (try replace HN5 := hide (HN5.out.below hb)); (try replace HN6 := hide (HN6.out.below hb)); clear hb) | (go_at_call 15; refine (Same11_ref p3 n c3 s a n cap s _ HN3.out (HV.out.below BB.out)).mono ?_; rintro e wy ⟨rfl, hb⟩; rw [decide_eq_true (rfl : s = s)]; replace BB := hide (bel_next BB.out hb); (try replace d0 := bcell hb d0); (try replace d1 := bcell hb d1); (try replace d2 := bcell hb d2); (try replace d3 := bcell hb d3); (try replace HN2 := hide (HN2.out.below hb)); (try replace HN3 := hide (HN3.out.below hb)); (try replace HN5 := hide (HN5.out.below hb)); (try replace HN6 := hide (HN6.out.below hb)); clear hb) | (go_at_call 8; refine (awake11 _).mono ?_; rintro e wz ⟨rfl, hb⟩))
                          go_ret
                          exact ⟨by first | rfl | (simp; omega) | (simp [*]), bel_next BB.out hb⟩
                        · have hb1 : (((qq : Int) + 1) == ((rr : Int) + 1)) = false := by rw [beq_eq_false_iff_ne]; omega
                          have hb2 : ¬ ((qq : Int) + 1 = (rr : Int) + 1) := by omega
                          have hb3 : ((qq : Int) == (rr : Int)) = false := by rw [beq_eq_false_iff_ne]; omega
                          have hb4 : ¬ ((qq : Int) = (rr : Int)) := by omega
                          have hb5 : (((qq : Int) + 1) != ((rr : Int) + 1)) = true := by unfold bne; rw [hb1]; rfl
                          have hb6 : ((qq : Int) != (rr : Int)) = true := by unfold bne; rw [hb3]; rfl
                          have hwn : IntKind.i64.wrap (-m) = -m := by rw [IntKind.wrap_i64]; omega
                          have HB0 : Hid (movA s t (rr + 1) (qq + 1) m = addA (addA s t (rr + 1) (-m)) t (qq + 1) m) := by unfold Hid movA; rw [if_neg (by omega)]
                          have HA1 : Hid (∀ W, AC W a n s → Calls Try.prog 14 #[.slice a n cap, .string t, .int .i64 ((rr : Int) + 1), .int .i64 (-m)] W fun e w' => ∃ p cp, e = .returned (.slice p (addA s t (rr + 1) (-m)).length cp) ∧ AC w' p (addA s t (rr + 1) (-m)).length (addA s t (rr + 1) (-m)) ∧ CP p (addA s t (rr + 1) (-m)).length cp ∧ Below W.heap.size W w') := fun W g => Add11_ref a n cap s t rr hrr (-m) (by omega) W g HPS.out.1 (by omega) (bd41_of (havA_may HMS.out t))
                          have HA2 : Hid (∀ p c W, AC W p (addA s t (rr + 1) (-m)).length (addA s t (rr + 1) (-m)) → Calls Try.prog 14 #[.slice p (addA s t (rr + 1) (-m)).length c, .string t, .int .i64 ((qq : Int) + 1), .int .i64 m] W fun e w' => ∃ p cp, e = .returned (.slice p (addA (addA s t (rr + 1) (-m)) t (qq + 1) m).length cp) ∧ AC w' p (addA (addA s t (rr + 1) (-m)) t (qq + 1) m).length (addA (addA s t (rr + 1) (-m)) t (qq + 1) m) ∧ CP p (addA (addA s t (rr + 1) (-m)) t (qq + 1) m).length cp ∧ Below W.heap.size W w') := fun p c W g => Add11_ref p _ c (addA s t (rr + 1) (-m)) t qq hqq m (by omega) W g (addA_srt HPS.out.1 t _ _) (by
                            have h1 := setA_len s t (incA (havA s t) (rr + 1) (-m))
                            have h2 := HLEN.out
                            show (setA s t (incA (havA s t) (rr + 1) (-m))).length ≤ 100000
                            omega) (by
                            rw [havA_add HPS.out.1 HPS.out.2.1, if_pos rfl]
                            exact inc_bd41 (havA_len HPS.out.2.1 t) (havA_may HMS.out t) (by omega) (by omega))
                          rcases hmb : mayA (addA (addA s t (rr + 1) (-m)) t (qq + 1) m) with _ | _
                          · have HMV := hide (fun W (g : AC W a n s) => Move11_full a n cap s t rr qq hrr hqq m (by omega) W g HCP.out HMS.out HKT.out (by rw [HB0.out]; exact hmb))
                            have HRB : Hid (∀ p c W, AC W p (addA (addA s t (rr + 1) (-m)) t (qq + 1) m).length (addA (addA s t (rr + 1) (-m)) t (qq + 1) m) → Calls Try.prog 11 #[.slice p (addA (addA s t (rr + 1) (-m)) t (qq + 1) m).length c] W fun e w' => e = .returned (.bool false) ∧ Below W.heap.size W w') := fun p c W g => by rw [← hmb]; exact Right11_ref p _ c _ W g
                            clear hmb HB0
                            generalize addA (addA s t (rr + 1) (-m)) t (qq + 1) m = B at *
                            generalize B.length = nB at *
                            generalize (addA s t (rr + 1) (-m)).length = nM at *
                            generalize addA s t (rr + 1) (-m) = M at *
                            go_upto_region 19 with (first | (go_at_call 9; refine (HUP.out _ (HV.out.below BB.out)).mono ?_; rintro e wy ⟨p2, c2, rfl, hnx, hcx, hb⟩; have HN2x := hide hnx; replace BB := hide (bel_next BB.out hb); (try replace d0 := bcell hb d0); (try replace d1 := bcell hb d1); (try replace d2 := bcell hb d2); (try replace d3 := bcell hb d3); (try replace HN3 := hide (HN3.out.below hb)); (try replace HN5 := hide (HN5.out.below hb)); (try replace HN6 := hide (HN6.out.below hb)); clear hb; have HN2 := HN2x; clear HN2x hnx hcx) | (go_at_call 14; refine (HAD.out _ (HV.out.below BB.out)).mono ?_; rintro e wy ⟨p5, c5, rfl, hnx, hcx, hb⟩; have HN5x := hide hnx; replace BB := hide (bel_next BB.out hb); (try replace d0 := bcell hb d0); (try replace d1 := bcell hb d1); (try replace d2 := bcell hb d2); (try replace d3 := bcell hb d3); (try replace HN2 := hide (HN2.out.below hb)); (try replace HN3 := hide (HN3.out.below hb)); (try replace HN6 := hide (HN6.out.below hb)); clear hb; have HN5 := HN5x; clear HN5x hnx hcx) | (go_at_call 11; refine (HRA.out p5 c5 _ HN5.out).mono ?_; rintro e wy ⟨rfl, hb⟩; replace BB := hide (bel_next BB.out hb); (try replace d0 := bcell hb d0); (try replace d1 := bcell hb d1); (try replace d2 := bcell hb d2); (try replace d3 := bcell hb d3); (try replace HN2 := hide (HN2.out.below hb)); (try replace HN3 := hide (HN3.out.below hb)); (try replace HN5 := hide (HN5.out.below hb)); (try replace HN6 := hide (HN6.out.below hb)); clear hb) | (go_at_call 15; refine (Same11_ref p2 nA c2 A p5 nA c5 A _ HN2.out HN5.out).mono ?_; rintro e wy ⟨rfl, hb⟩; rw [decide_eq_true (rfl : A = A)]; replace BB := hide (bel_next BB.out hb); (try replace d0 := bcell hb d0); (try replace d1 := bcell hb d1); (try replace d2 := bcell hb d2); (try replace d3 := bcell hb d3); (try replace HN2 := hide (HN2.out.below hb)); (try replace HN3 := hide (HN3.out.below hb)); (try replace HN5 := hide (HN5.out.below hb)); (try replace HN6 := hide (HN6.out.below hb)); clear hb) | (go_at_call 10; refine (HMV.out _ (HV.out.below BB.out)).mono ?_; rintro e wy ⟨rfl, hb⟩; replace BB := hide (bel_next BB.out hb); (try replace d0 := bcell hb d0); (try replace d1 := bcell hb d1); (try replace d2 := bcell hb d2); (try replace d3 := bcell hb d3); (try replace HN2 := hide (HN2.out.below hb)); (try replace HN3 := hide (HN3.out.below hb)); (try replace HN5 := hide (HN5.out.below hb)); (try replace HN6 := hide (HN6.out.below hb)); clear hb) | (go_at_call 11; refine (Right11_ref a n cap s _ (HV.out.below BB.out)).mono ?_; rintro e wy ⟨rfl, hb⟩; rw [HMS.out]; replace BB := hide (bel_next BB.out hb); (try replace d0 := bcell hb d0); (try replace d1 := bcell hb d1); (try replace d2 := bcell hb d2); (try replace d3 := bcell hb d3); (try replace HN2 := hide (HN2.out.below hb)); (try replace HN3 := hide (HN3.out.below hb)); (try replace HN5 := hide (HN5.out.below hb)); (try replace HN6 := hide (HN6.out.below hb)); clear hb) | (go_at_call 13; refine (Check11_any a n cap s _ (HV.out.below BB.out)).mono ?_; rintro e wy ⟨rfl, hb⟩; rw [HCK.out]; replace BB := hide (bel_next BB.out hb); (try replace d0 := bcell hb d0); (try replace d1 := bcell hb d1); (try replace d2 := bcell hb d2); (try replace d3 := bcell hb d3); (try replace HN2 := hide (HN2.out.below hb)); (try replace HN3 := hide (HN3.out.below hb)); (try replace HN5 := hide (HN5.out.below hb)); (try replace HN6 := hide (HN6.out.below hb)); clear hb) | (go_at_call 12; refine (there11 _ _).mono ?_; rintro e wy ⟨rfl, rfl⟩; (first | rw [HR.out] | rw [HQ.out])))
                            generalize w.heap.size = gb at d0 d1 d2 d3
                            generalize hwu : wy = u at *
                            clear hwu
                            refine wp_region_held_drew (S := fun W => Below u.heap.size u W) (by kernel_rfl) ((Below.refl _ u).drew) (fun hS0 => ?_)
                            refine takeInH 0 154 ?v81 rfl rfl (by kernel_rfl) (by kernel_rfl) (by kernel_rfl) (fun _ _ _ h => h) (by kernel_rfl) hS0 ?hy81 ?_
                            case hy81 => (intro W hW; clear hW; go_simp; try rfl)
                            simp only [Act.put, List.setIfInBounds_toArray, List.set_cons_zero, List.set_cons_succ]
                            refine takeInH 1 155 ?v82 rfl rfl (by kernel_rfl) (by kernel_rfl) (by kernel_rfl) (fun _ _ _ h => h) (by kernel_rfl) hS0 ?hy82 ?_
                            case hy82 => (intro W hW; clear hW; go_simp; try rfl)
                            simp only [Act.put, List.setIfInBounds_toArray, List.set_cons_zero, List.set_cons_succ]
                            refine takeInH 2 156 ?v83 rfl rfl (by kernel_rfl) (by kernel_rfl) (by kernel_rfl) (fun _ _ _ h => h) (by kernel_rfl) hS0 ?hy83 ?_
                            case hy83 => (intro W hW; have e0 := bcell hW d0; have e1 := bcell hW d1; have e2 := bcell hW d2; have e3 := bcell hW d3; clear hW; go_simp; try rfl)
                            simp only [Act.put, List.setIfInBounds_toArray, List.set_cons_zero, List.set_cons_succ]
                            refine takeInH 3 157 ?v84 rfl rfl (by kernel_rfl) (by kernel_rfl) (by kernel_rfl) (fun _ _ _ h => h) (by kernel_rfl) hS0 ?hy84 ?_
                            case hy84 => (intro W hW; clear hW; go_simp; try rfl)
                            simp only [Act.put, List.setIfInBounds_toArray, List.set_cons_zero, List.set_cons_succ]
                            refine takeInH 4 158 ?v85 rfl rfl (by kernel_rfl) (by kernel_rfl) (by kernel_rfl) (fun _ _ _ h => h) (by kernel_rfl) hS0 ?hy85 ?_
                            case hy85 => (intro W hW; have e0 := bcell hW d0; have e1 := bcell hW d1; have e2 := bcell hW d2; have e3 := bcell hW d3; clear hW; go_simp; try rfl)
                            simp only [Act.put, List.setIfInBounds_toArray, List.set_cons_zero, List.set_cons_succ]
                            refine takeInH 5 159 ?v86 rfl rfl (by kernel_rfl) (by kernel_rfl) (by kernel_rfl) (fun _ _ _ h => h) (by kernel_rfl) hS0 ?hy86 ?_
                            case hy86 => (intro W hW; clear hW; go_simp; try rfl)
                            simp only [Act.put, List.setIfInBounds_toArray, List.set_cons_zero, List.set_cons_succ]
                            refine takeInH 6 160 ?v87 rfl rfl (by kernel_rfl) (by kernel_rfl) (by kernel_rfl) (fun _ _ _ h => h) (by kernel_rfl) hS0 ?hy87 ?_
                            case hy87 => (intro W hW; have e0 := bcell hW d0; have e1 := bcell hW d1; have e2 := bcell hW d2; have e3 := bcell hW d3; clear hW; go_simp; try rfl)
                            simp only [Act.put, List.setIfInBounds_toArray, List.set_cons_zero, List.set_cons_succ]
                            refine takeInH 7 161 ?v88 rfl rfl (by kernel_rfl) (by kernel_rfl) (by kernel_rfl) (fun _ _ _ h => h) (by kernel_rfl) hS0 ?hy88 ?_
                            case hy88 => (intro W hW; clear hW; go_simp; try rfl)
                            simp only [Act.put, List.setIfInBounds_toArray, List.set_cons_zero, List.set_cons_succ]
                            refine takeInH 9 163 ?v89 rfl rfl (by kernel_rfl) (by kernel_rfl) (by kernel_rfl) (fun _ _ _ h => h) (by kernel_rfl) hS0 ?hy89 ?_
                            case hy89 => (intro W hW; clear hW; go_simp; try rfl)
                            simp only [Act.put, List.setIfInBounds_toArray, List.set_cons_zero, List.set_cons_succ]
                            refine takeInH 10 164 ?v90 rfl rfl (by kernel_rfl) (by kernel_rfl) (by kernel_rfl) (fun _ _ _ h => h) (by kernel_rfl) hS0 ?hy90 ?_
                            case hy90 => (intro W hW; have e0 := bcell hW d0; have e1 := bcell hW d1; have e2 := bcell hW d2; have e3 := bcell hW d3; clear hW; go_simp; try rfl)
                            simp only [Act.put, List.setIfInBounds_toArray, List.set_cons_zero, List.set_cons_succ]
                            refine takeInH 11 165 ?v91 rfl rfl (by kernel_rfl) (by kernel_rfl) (by kernel_rfl) (fun _ _ _ h => h) (by kernel_rfl) hS0 ?hy91 ?_
                            case hy91 => (intro W hW; clear hW; go_simp; try rfl)
                            simp only [Act.put, List.setIfInBounds_toArray, List.set_cons_zero, List.set_cons_succ]
                            refine takeInH 12 166 ?v92 rfl rfl (by kernel_rfl) (by kernel_rfl) (by kernel_rfl) (fun _ _ _ h => h) (by kernel_rfl) hS0 ?hy92 ?_
                            case hy92 => (intro W hW; have e0 := bcell hW d0; have e1 := bcell hW d1; have e2 := bcell hW d2; have e3 := bcell hW d3; clear hW; go_simp; try rfl)
                            simp only [Act.put, List.setIfInBounds_toArray, List.set_cons_zero, List.set_cons_succ]
                            refine takeInH 13 167 ?v93 rfl rfl (by kernel_rfl) (by kernel_rfl) (by kernel_rfl) (fun _ _ _ h => h) (by kernel_rfl) hS0 ?hy93 ?_
                            case hy93 => (intro W hW; clear hW; go_simp; try rfl)
                            simp only [Act.put, List.setIfInBounds_toArray, List.set_cons_zero, List.set_cons_succ]
                            refine takeInH 14 168 ?v94 rfl rfl (by kernel_rfl) (by kernel_rfl) (by kernel_rfl) (fun _ _ _ h => h) (by kernel_rfl) hS0 ?hy94 ?_
                            case hy94 => (intro W hW; have e0 := bcell hW d0; have e1 := bcell hW d1; have e2 := bcell hW d2; have e3 := bcell hW d3; clear hW; go_simp; try rfl)
                            simp only [Act.put, List.setIfInBounds_toArray, List.set_cons_zero, List.set_cons_succ]
                            refine wpAnyH_ready (rs := [8]) (by kernel_rfl) (by simp) ?_
                            refine AllReadyH.cons rfl (fun K hK => ?_) AllReadyH.nil
                            go_simp
                            refine (HA1.out _ (HV.out.below (bel_next BB.out hS0))).mono ?_
                            rintro e wy ⟨p7, c7, rfl, hn7, hc7, hb⟩
                            have HN7 := hide hn7
                            clear hn7 hc7
                            refine hK.out _ _ ?hs95 (fun hS1 => ?_)
                            case hs95 => exact bel_next hS0 hb
                            clear hK K hb
                            try simp only [Act.put, List.setIfInBounds_toArray, List.set_cons_zero, List.set_cons_succ]
                            refine wpAnyH_ready (rs := [15]) (by kernel_rfl) (by simp) ?_
                            refine AllReadyH.cons rfl (fun K hK => ?_) AllReadyH.nil
                            go_simp
                            refine (HA2.out p7 c7 _ HN7.out).mono ?_
                            rintro e wy ⟨p6, c6, rfl, hn6, hc6, hb⟩
                            have HN6 := hide hn6
                            clear hn6 hc6
                            refine hK.out _ _ ?hs96 (fun hS2 => ?_)
                            case hs96 => exact bel_next hS1 hb
                            clear hK K hb
                            try simp only [Act.put, List.setIfInBounds_toArray, List.set_cons_zero, List.set_cons_succ]
                            refine takeInH 16 12 ?v97 rfl rfl (by kernel_rfl) (by kernel_rfl) (by kernel_rfl) (fun _ _ _ h => h) (by kernel_rfl) hS2 ?hy97 ?_
                            case hy97 => (intro W hW; clear hW; go_simp; try rfl)
                            simp only [Act.put, List.setIfInBounds_toArray, List.set_cons_zero, List.set_cons_succ]
                            refine wpAnyH_done (by kernel_rfl) ?_ _
                            replace d0 := bcell hS2 d0
                            replace BB := hide (bel_next BB.out hS2)
                            skip
                            clear hS2
                            go_wp2_with (first | (go_at_call 11; refine (HRB.out p6 c6 _ HN6.out).mono ?_; rintro e wy ⟨rfl, hb⟩; replace BB := hide (bel_next BB.out hb); (try replace d0 := bcell hb d0); (try replace d1 := bcell hb d1); (try replace d2 := bcell hb d2); (try replace d3 := bcell hb d3); (try replace HN2 := hide (HN2.out.below hb)); (try replace HN3 := hide (HN3.out.below hb)); (try replace HN5 := hide (HN5.out.below hb)); (try replace HN6 := hide (HN6.out.below hb)); clear hb) | (go_at_call 8; refine (awake11 _).mono ?_; rintro e wz ⟨rfl, hb⟩))
                            go_ret
                            exact ⟨by first | rfl | (simp; omega) | (simp [*]), bel_next BB.out hb⟩
                          · have HMV : Hid (∀ W, AC W a n s → Calls Try.prog 10 #[.slice a n cap, .string t, .int .i64 ((rr : Int) + 1), .int .i64 ((qq : Int) + 1), .int .i64 m] W fun e w' => ∃ p cp, e = .returned (.tuple #[.slice p (addA (addA s t (rr + 1) (-m)) t (qq + 1) m).length cp, .int .i64 0]) ∧ AC w' p (addA (addA s t (rr + 1) (-m)) t (qq + 1) m).length (addA (addA s t (rr + 1) (-m)) t (qq + 1) m) ∧ CP p (addA (addA s t (rr + 1) (-m)) t (qq + 1) m).length cp ∧ Below W.heap.size W w') := fun W g => by
                              have := Move11_good a n cap s t rr qq hrr hqq m (by omega) W g HCP.out HMS.out HKT.out (by rw [HB0.out]; exact hmb)
                              rw [HB0.out] at this
                              exact this
                            have HRB : Hid (∀ p c W, AC W p (addA (addA s t (rr + 1) (-m)) t (qq + 1) m).length (addA (addA s t (rr + 1) (-m)) t (qq + 1) m) → Calls Try.prog 11 #[.slice p (addA (addA s t (rr + 1) (-m)) t (qq + 1) m).length c] W fun e w' => e = .returned (.bool true) ∧ Below W.heap.size W w') := fun p c W g => by rw [← hmb]; exact Right11_ref p _ c _ W g
                            clear hmb HB0
                            generalize addA (addA s t (rr + 1) (-m)) t (qq + 1) m = B at *
                            generalize B.length = nB at *
                            generalize (addA s t (rr + 1) (-m)).length = nM at *
                            generalize addA s t (rr + 1) (-m) = M at *
                            go_upto_region 19 with (first | (go_at_call 9; refine (HUP.out _ (HV.out.below BB.out)).mono ?_; rintro e wy ⟨p2, c2, rfl, hnx, hcx, hb⟩; have HN2x := hide hnx; replace BB := hide (bel_next BB.out hb); (try replace d0 := bcell hb d0); (try replace d1 := bcell hb d1); (try replace d2 := bcell hb d2); (try replace d3 := bcell hb d3); (try replace HN3 := hide (HN3.out.below hb)); (try replace HN5 := hide (HN5.out.below hb)); (try replace HN6 := hide (HN6.out.below hb)); clear hb; have HN2 := HN2x; clear HN2x hnx hcx) | (go_at_call 14; refine (HAD.out _ (HV.out.below BB.out)).mono ?_; rintro e wy ⟨p5, c5, rfl, hnx, hcx, hb⟩; have HN5x := hide hnx; replace BB := hide (bel_next BB.out hb); (try replace d0 := bcell hb d0); (try replace d1 := bcell hb d1); (try replace d2 := bcell hb d2); (try replace d3 := bcell hb d3); (try replace HN2 := hide (HN2.out.below hb)); (try replace HN3 := hide (HN3.out.below hb)); (try replace HN6 := hide (HN6.out.below hb)); clear hb; have HN5 := HN5x; clear HN5x hnx hcx) | (go_at_call 11; refine (HRA.out p5 c5 _ HN5.out).mono ?_; rintro e wy ⟨rfl, hb⟩; replace BB := hide (bel_next BB.out hb); (try replace d0 := bcell hb d0); (try replace d1 := bcell hb d1); (try replace d2 := bcell hb d2); (try replace d3 := bcell hb d3); (try replace HN2 := hide (HN2.out.below hb)); (try replace HN3 := hide (HN3.out.below hb)); (try replace HN5 := hide (HN5.out.below hb)); (try replace HN6 := hide (HN6.out.below hb)); clear hb) | (go_at_call 15; refine (Same11_ref p2 nA c2 A p5 nA c5 A _ HN2.out HN5.out).mono ?_; rintro e wy ⟨rfl, hb⟩; rw [decide_eq_true (rfl : A = A)]; replace BB := hide (bel_next BB.out hb); (try replace d0 := bcell hb d0); (try replace d1 := bcell hb d1); (try replace d2 := bcell hb d2); (try replace d3 := bcell hb d3); (try replace HN2 := hide (HN2.out.below hb)); (try replace HN3 := hide (HN3.out.below hb)); (try replace HN5 := hide (HN5.out.below hb)); (try replace HN6 := hide (HN6.out.below hb)); clear hb) | (go_at_call 10; refine (HMV.out _ (HV.out.below BB.out)).mono ?_; rintro e wy ⟨p3, c3, rfl, hnx, hcx, hb⟩; have HN3x := hide hnx; replace BB := hide (bel_next BB.out hb); (try replace d0 := bcell hb d0); (try replace d1 := bcell hb d1); (try replace d2 := bcell hb d2); (try replace d3 := bcell hb d3); (try replace HN2 := hide (HN2.out.below hb)); (try replace HN5 := hide (HN5.out.below hb)); (try replace HN6 := hide (HN6.out.below hb)); clear hb; have HN3 := HN3x; clear HN3x hnx hcx) | (go_at_call 11; refine (Right11_ref a n cap s _ (HV.out.below BB.out)).mono ?_; rintro e wy ⟨rfl, hb⟩; rw [HMS.out]; replace BB := hide (bel_next BB.out hb); (try replace d0 := bcell hb d0); (try replace d1 := bcell hb d1); (try replace d2 := bcell hb d2); (try replace d3 := bcell hb d3); (try replace HN2 := hide (HN2.out.below hb)); (try replace HN3 := hide (HN3.out.below hb)); (try replace HN5 := hide (HN5.out.below hb)); (try replace HN6 := hide (HN6.out.below hb)); clear hb) | (go_at_call 13; refine (Check11_any a n cap s _ (HV.out.below BB.out)).mono ?_; rintro e wy ⟨rfl, hb⟩; rw [HCK.out]; replace BB := hide (bel_next BB.out hb); (try replace d0 := bcell hb d0); (try replace d1 := bcell hb d1); (try replace d2 := bcell hb d2); (try replace d3 := bcell hb d3); (try replace HN2 := hide (HN2.out.below hb)); (try replace HN3 := hide (HN3.out.below hb)); (try replace HN5 := hide (HN5.out.below hb)); (try replace HN6 := hide (HN6.out.below hb)); clear hb) | (go_at_call 12; refine (there11 _ _).mono ?_; rintro e wy ⟨rfl, rfl⟩; (first | rw [HR.out] | rw [HQ.out])))
                            generalize w.heap.size = gb at d0 d1 d2 d3
                            generalize hwu : wy = u at *
                            clear hwu
                            refine wp_region_held_drew (S := fun W => Below u.heap.size u W) (by kernel_rfl) ((Below.refl _ u).drew) (fun hS0 => ?_)
                            refine takeInH 0 154 ?v98 rfl rfl (by kernel_rfl) (by kernel_rfl) (by kernel_rfl) (fun _ _ _ h => h) (by kernel_rfl) hS0 ?hy98 ?_
                            case hy98 => (intro W hW; clear hW; go_simp; try rfl)
                            simp only [Act.put, List.setIfInBounds_toArray, List.set_cons_zero, List.set_cons_succ]
                            refine takeInH 1 155 ?v99 rfl rfl (by kernel_rfl) (by kernel_rfl) (by kernel_rfl) (fun _ _ _ h => h) (by kernel_rfl) hS0 ?hy99 ?_
                            case hy99 => (intro W hW; clear hW; go_simp; try rfl)
                            simp only [Act.put, List.setIfInBounds_toArray, List.set_cons_zero, List.set_cons_succ]
                            refine takeInH 2 156 ?v100 rfl rfl (by kernel_rfl) (by kernel_rfl) (by kernel_rfl) (fun _ _ _ h => h) (by kernel_rfl) hS0 ?hy100 ?_
                            case hy100 => (intro W hW; have e0 := bcell hW d0; have e1 := bcell hW d1; have e2 := bcell hW d2; have e3 := bcell hW d3; clear hW; go_simp; try rfl)
                            simp only [Act.put, List.setIfInBounds_toArray, List.set_cons_zero, List.set_cons_succ]
                            refine takeInH 3 157 ?v101 rfl rfl (by kernel_rfl) (by kernel_rfl) (by kernel_rfl) (fun _ _ _ h => h) (by kernel_rfl) hS0 ?hy101 ?_
                            case hy101 => (intro W hW; clear hW; go_simp; try rfl)
                            simp only [Act.put, List.setIfInBounds_toArray, List.set_cons_zero, List.set_cons_succ]
                            refine takeInH 4 158 ?v102 rfl rfl (by kernel_rfl) (by kernel_rfl) (by kernel_rfl) (fun _ _ _ h => h) (by kernel_rfl) hS0 ?hy102 ?_
                            case hy102 => (intro W hW; have e0 := bcell hW d0; have e1 := bcell hW d1; have e2 := bcell hW d2; have e3 := bcell hW d3; clear hW; go_simp; try rfl)
                            simp only [Act.put, List.setIfInBounds_toArray, List.set_cons_zero, List.set_cons_succ]
                            refine takeInH 5 159 ?v103 rfl rfl (by kernel_rfl) (by kernel_rfl) (by kernel_rfl) (fun _ _ _ h => h) (by kernel_rfl) hS0 ?hy103 ?_
                            case hy103 => (intro W hW; clear hW; go_simp; try rfl)
                            simp only [Act.put, List.setIfInBounds_toArray, List.set_cons_zero, List.set_cons_succ]
                            refine takeInH 6 160 ?v104 rfl rfl (by kernel_rfl) (by kernel_rfl) (by kernel_rfl) (fun _ _ _ h => h) (by kernel_rfl) hS0 ?hy104 ?_
                            case hy104 => (intro W hW; have e0 := bcell hW d0; have e1 := bcell hW d1; have e2 := bcell hW d2; have e3 := bcell hW d3; clear hW; go_simp; try rfl)
                            simp only [Act.put, List.setIfInBounds_toArray, List.set_cons_zero, List.set_cons_succ]
                            refine takeInH 7 161 ?v105 rfl rfl (by kernel_rfl) (by kernel_rfl) (by kernel_rfl) (fun _ _ _ h => h) (by kernel_rfl) hS0 ?hy105 ?_
                            case hy105 => (intro W hW; clear hW; go_simp; try rfl)
                            simp only [Act.put, List.setIfInBounds_toArray, List.set_cons_zero, List.set_cons_succ]
                            refine takeInH 9 163 ?v106 rfl rfl (by kernel_rfl) (by kernel_rfl) (by kernel_rfl) (fun _ _ _ h => h) (by kernel_rfl) hS0 ?hy106 ?_
                            case hy106 => (intro W hW; clear hW; go_simp; try rfl)
                            simp only [Act.put, List.setIfInBounds_toArray, List.set_cons_zero, List.set_cons_succ]
                            refine takeInH 10 164 ?v107 rfl rfl (by kernel_rfl) (by kernel_rfl) (by kernel_rfl) (fun _ _ _ h => h) (by kernel_rfl) hS0 ?hy107 ?_
                            case hy107 => (intro W hW; have e0 := bcell hW d0; have e1 := bcell hW d1; have e2 := bcell hW d2; have e3 := bcell hW d3; clear hW; go_simp; try rfl)
                            simp only [Act.put, List.setIfInBounds_toArray, List.set_cons_zero, List.set_cons_succ]
                            refine takeInH 11 165 ?v108 rfl rfl (by kernel_rfl) (by kernel_rfl) (by kernel_rfl) (fun _ _ _ h => h) (by kernel_rfl) hS0 ?hy108 ?_
                            case hy108 => (intro W hW; clear hW; go_simp; try rfl)
                            simp only [Act.put, List.setIfInBounds_toArray, List.set_cons_zero, List.set_cons_succ]
                            refine takeInH 12 166 ?v109 rfl rfl (by kernel_rfl) (by kernel_rfl) (by kernel_rfl) (fun _ _ _ h => h) (by kernel_rfl) hS0 ?hy109 ?_
                            case hy109 => (intro W hW; have e0 := bcell hW d0; have e1 := bcell hW d1; have e2 := bcell hW d2; have e3 := bcell hW d3; clear hW; go_simp; try rfl)
                            simp only [Act.put, List.setIfInBounds_toArray, List.set_cons_zero, List.set_cons_succ]
                            refine takeInH 13 167 ?v110 rfl rfl (by kernel_rfl) (by kernel_rfl) (by kernel_rfl) (fun _ _ _ h => h) (by kernel_rfl) hS0 ?hy110 ?_
                            case hy110 => (intro W hW; clear hW; go_simp; try rfl)
                            simp only [Act.put, List.setIfInBounds_toArray, List.set_cons_zero, List.set_cons_succ]
                            refine takeInH 14 168 ?v111 rfl rfl (by kernel_rfl) (by kernel_rfl) (by kernel_rfl) (fun _ _ _ h => h) (by kernel_rfl) hS0 ?hy111 ?_
                            case hy111 => (intro W hW; have e0 := bcell hW d0; have e1 := bcell hW d1; have e2 := bcell hW d2; have e3 := bcell hW d3; clear hW; go_simp; try rfl)
                            simp only [Act.put, List.setIfInBounds_toArray, List.set_cons_zero, List.set_cons_succ]
                            refine wpAnyH_ready (rs := [8]) (by kernel_rfl) (by simp) ?_
                            refine AllReadyH.cons rfl (fun K hK => ?_) AllReadyH.nil
                            go_simp
                            refine (HA1.out _ (HV.out.below (bel_next BB.out hS0))).mono ?_
                            rintro e wy ⟨p7, c7, rfl, hn7, hc7, hb⟩
                            have HN7 := hide hn7
                            clear hn7 hc7
                            refine hK.out _ _ ?hs112 (fun hS1 => ?_)
                            case hs112 => exact bel_next hS0 hb
                            clear hK K hb
                            try simp only [Act.put, List.setIfInBounds_toArray, List.set_cons_zero, List.set_cons_succ]
                            refine wpAnyH_ready (rs := [15]) (by kernel_rfl) (by simp) ?_
                            refine AllReadyH.cons rfl (fun K hK => ?_) AllReadyH.nil
                            go_simp
                            refine (HA2.out p7 c7 _ HN7.out).mono ?_
                            rintro e wy ⟨p6, c6, rfl, hn6, hc6, hb⟩
                            have HN6 := hide hn6
                            clear hn6 hc6
                            refine hK.out _ _ ?hs113 (fun hS2 => ?_)
                            case hs113 => exact bel_next hS1 hb
                            clear hK K hb
                            try simp only [Act.put, List.setIfInBounds_toArray, List.set_cons_zero, List.set_cons_succ]
                            refine takeInH 16 12 ?v114 rfl rfl (by kernel_rfl) (by kernel_rfl) (by kernel_rfl) (fun _ _ _ h => h) (by kernel_rfl) hS2 ?hy114 ?_
                            case hy114 => (intro W hW; clear hW; go_simp; try rfl)
                            simp only [Act.put, List.setIfInBounds_toArray, List.set_cons_zero, List.set_cons_succ]
                            refine wpAnyH_done (by kernel_rfl) ?_ _
                            replace d0 := bcell hS2 d0
                            replace BB := hide (bel_next BB.out hS2)
                            replace HN3 := hide (HN3.out.below hS2)
                            clear hS2
                            go_wp2_with (first | (go_at_call 11; refine (HRB.out p6 c6 _ HN6.out).mono ?_; rintro e wy ⟨rfl, hb⟩; replace BB := hide (bel_next BB.out hb); (try replace d0 := bcell hb d0); (try replace d1 := bcell hb d1); (try replace d2 := bcell hb d2); (try replace d3 := bcell hb d3); (try replace HN2 := hide (HN2.out.below hb)); (try replace HN3 := hide (HN3.out.below hb)); (try replace HN5 := hide (HN5.out.below hb)); (try replace HN6 := hide (HN6.out.below hb)); clear hb) | (go_at_call 15; refine (Same11_ref p3 nB c3 B p6 nB c6 B _ HN3.out HN6.out).mono ?_; rintro e wy ⟨rfl, hb⟩; rw [decide_eq_true (rfl : B = B)]; replace BB := hide (bel_next BB.out hb); (try replace d0 := bcell hb d0); (try replace d1 := bcell hb d1); (try replace d2 := bcell hb d2); (try replace d3 := bcell hb d3); (try replace HN2 := hide (HN2.out.below hb)); (try replace HN3 := hide (HN3.out.below hb)); (try replace HN5 := hide (HN5.out.below hb)); (try replace HN6 := hide (HN6.out.below hb)); clear hb) | (go_at_call 8; refine (awake11 _).mono ?_; rintro e wz ⟨rfl, hb⟩))
                            go_ret
                            exact ⟨by first | rfl | (simp; omega) | (simp [*]), bel_next BB.out hb⟩
              · have m7 : (1000 : Int) < m := by omega
                have HUN : Hid (okUp s t ((rr : Int) + 1) m = false) := by
                  unfold Hid
                  rw [Bool.eq_false_iff]
                  intro h
                  have h := okUp_iff.1 h
                  (have := h.2.2.2; omega)
                have HNO : Hid (okMov s t ((rr : Int) + 1) q m = false) := by
                  unfold Hid
                  rw [Bool.eq_false_iff]
                  intro h
                  have h := okMov_iff.1 h
                  (have := h.2.2.2.2; omega)
                clear hm
                go_wp2_with (first | (go_at_call 9; refine (Up11_bad a n cap s _ _ m _ (HV.out.below BB.out) HUN.out).mono ?_; rintro e wy ⟨rfl, hb⟩; replace BB := hide (bel_next BB.out hb); (try replace d0 := bcell hb d0); (try replace d1 := bcell hb d1); (try replace d2 := bcell hb d2); (try replace d3 := bcell hb d3); (try replace HN2 := hide (HN2.out.below hb)); (try replace HN3 := hide (HN3.out.below hb)); (try replace HN5 := hide (HN5.out.below hb)); (try replace HN6 := hide (HN6.out.below hb)); clear hb) | (go_at_call 10; refine (Move11_bad a n cap s _ _ _ m _ (HV.out.below BB.out) HNO.out).mono ?_; rintro e wy ⟨rfl, hb⟩; replace BB := hide (bel_next BB.out hb); (try replace d0 := bcell hb d0); (try replace d1 := bcell hb d1); (try replace d2 := bcell hb d2); (try replace d3 := bcell hb d3); (try replace HN2 := hide (HN2.out.below hb)); (try replace HN3 := hide (HN3.out.below hb)); (try replace HN5 := hide (HN5.out.below hb)); (try replace HN6 := hide (HN6.out.below hb)); clear hb) | (go_at_call 11; refine (Right11_ref a n cap s _ (HV.out.below BB.out)).mono ?_; rintro e wy ⟨rfl, hb⟩; rw [HMS.out]; replace BB := hide (bel_next BB.out hb); (try replace d0 := bcell hb d0); (try replace d1 := bcell hb d1); (try replace d2 := bcell hb d2); (try replace d3 := bcell hb d3); (try replace HN2 := hide (HN2.out.below hb)); (try replace HN3 := hide (HN3.out.below hb)); (try replace HN5 := hide (HN5.out.below hb)); (try replace HN6 := hide (HN6.out.below hb)); clear hb) | (go_at_call 13; refine (Check11_any a n cap s _ (HV.out.below BB.out)).mono ?_; rintro e wy ⟨rfl, hb⟩; rw [HCK.out]; replace BB := hide (bel_next BB.out hb); (try replace d0 := bcell hb d0); (try replace d1 := bcell hb d1); (try replace d2 := bcell hb d2); (try replace d3 := bcell hb d3); (try replace HN2 := hide (HN2.out.below hb)); (try replace HN3 := hide (HN3.out.below hb)); (try replace HN5 := hide (HN5.out.below hb)); (try replace HN6 := hide (HN6.out.below hb)); clear hb) | (go_at_call 12; refine (there11 _ _).mono ?_; rintro e wy ⟨rfl, rfl⟩; (first | rw [HR.out] | rw [HQ.out])) | (go_at_call 8; refine (awake11 _).mono ?_; rintro e wz ⟨rfl, hb⟩))
                go_ret
                exact ⟨by first | rfl | (simp; omega) | (simp [*]), bel_next BB.out hb⟩
          · have k6 : (32 : Int) < (t.size : Int) := by omega
            have HUN : Hid (okUp s t r m = false) := by
              unfold Hid
              rw [Bool.eq_false_iff]
              intro h
              have h := okUp_iff.1 h
              (have := h.2.1; simp [mayK] at this; omega)
            have HNO : Hid (okMov s t r q m = false) := by
              unfold Hid
              rw [Bool.eq_false_iff]
              intro h
              have h := okMov_iff.1 h
              (have := h.2.1; simp [mayK] at this; omega)
            clear hm
            go_wp2_with (first | (go_at_call 9; refine (Up11_bad a n cap s _ _ m _ (HV.out.below BB.out) HUN.out).mono ?_; rintro e wy ⟨rfl, hb⟩; replace BB := hide (bel_next BB.out hb); (try replace d0 := bcell hb d0); (try replace d1 := bcell hb d1); (try replace d2 := bcell hb d2); (try replace d3 := bcell hb d3); (try replace HN2 := hide (HN2.out.below hb)); (try replace HN3 := hide (HN3.out.below hb)); (try replace HN5 := hide (HN5.out.below hb)); (try replace HN6 := hide (HN6.out.below hb)); clear hb) | (go_at_call 10; refine (Move11_bad a n cap s _ _ _ m _ (HV.out.below BB.out) HNO.out).mono ?_; rintro e wy ⟨rfl, hb⟩; replace BB := hide (bel_next BB.out hb); (try replace d0 := bcell hb d0); (try replace d1 := bcell hb d1); (try replace d2 := bcell hb d2); (try replace d3 := bcell hb d3); (try replace HN2 := hide (HN2.out.below hb)); (try replace HN3 := hide (HN3.out.below hb)); (try replace HN5 := hide (HN5.out.below hb)); (try replace HN6 := hide (HN6.out.below hb)); clear hb) | (go_at_call 11; refine (Right11_ref a n cap s _ (HV.out.below BB.out)).mono ?_; rintro e wy ⟨rfl, hb⟩; rw [HMS.out]; replace BB := hide (bel_next BB.out hb); (try replace d0 := bcell hb d0); (try replace d1 := bcell hb d1); (try replace d2 := bcell hb d2); (try replace d3 := bcell hb d3); (try replace HN2 := hide (HN2.out.below hb)); (try replace HN3 := hide (HN3.out.below hb)); (try replace HN5 := hide (HN5.out.below hb)); (try replace HN6 := hide (HN6.out.below hb)); clear hb) | (go_at_call 13; refine (Check11_any a n cap s _ (HV.out.below BB.out)).mono ?_; rintro e wy ⟨rfl, hb⟩; rw [HCK.out]; replace BB := hide (bel_next BB.out hb); (try replace d0 := bcell hb d0); (try replace d1 := bcell hb d1); (try replace d2 := bcell hb d2); (try replace d3 := bcell hb d3); (try replace HN2 := hide (HN2.out.below hb)); (try replace HN3 := hide (HN3.out.below hb)); (try replace HN5 := hide (HN5.out.below hb)); (try replace HN6 := hide (HN6.out.below hb)); clear hb) | (go_at_call 8; refine (awake11 _).mono ?_; rintro e wz ⟨rfl, hb⟩))
            go_ret
            exact ⟨by first | rfl | (simp; omega) | (simp [*]), bel_next BB.out hb⟩
    · go_wp2_with (go_at_call 8; refine (awake11 _).mono ?_; rintro e wz ⟨rfl, hb⟩)
      go_ret
      exact ⟨rfl, bel_next BB.out hb⟩

/-! ### The row's step -/
set_option maxRecDepth 100000 in
theorem lifted (os : Os) (started : os.Started) (H : Type) (enc : TypeId × Value → H) :
    ReturnsInHanded {} Try.checked os 3 .any (Rows.escrowTurnsSpec.pre6 enc Try.prog Try.f3 Rows.escrowTurnsRow.domain false) (Rows.escrowTurnsSpec.post enc Try.prog Try.f3 false true false false) := by
  refine returnsInHanded_of_change_sized (C := Try.checked) own started (by kernel_rfl) Try.func3
    (ChangeSpec.witness6 (enc := enc) (C := Try.checked) false ⟨#[], #[.slice none 0 0, .agg #[.string ⟨#[]⟩, .int .i64 0, .int .i64 0, .int .i64 0]], []⟩ 8 (by kernel_rfl) (by kernel_rfl) (by kernel_rfl) (by kernel_rfl)) ?_
  intro W base args ds gs before hval0 hW hcnd hz0 _
  have hval : ∀ (j : Nat) t v, Try.f3.params[j]? = some t → args[j]? = some v → Value.okWide Try.prog W .any base t v := hval0
  have hz : (DataW.weightsEach Try.prog (Try.f3.params.toList ++ Rows.escrowTurnsSpec.plain.varTypes Try.prog) (ds ++ gs)).all (· ≤ reachBytes) = true := hz0
  have hW' := hW
  obtain ⟨p, q, hA0, hV, rfl, hfz, hnd⟩ := hW
  have hA : DataW.TrodAll enc Try.prog W 0 (fun _ => true) true Try.f3.params.toList args.toList ds p := hA0
  rw [Try.params3] at hA hval hz
  obtain ⟨v0, vs0, d0, ds0, p0, q0, hargs, rfl, rfl, h0, r0⟩ := trodAll_cons hA
  obtain ⟨v1, vs1, d1, ds1, p1, q1, rfl, rfl, rfl, h1, r1⟩ := trodAll_cons r0
  obtain ⟨rfl, rfl, rfl⟩ := trodAll_nil r1
  obtain rfl : args = #[v0, v1] := by cases args; simp_all
  obtain ⟨rfl, rfl⟩ := trodVars_none hV
  have k0 := h0
  have lt0 : ∀ x ∈ p0, x.block < W.heap.size := by obtain ⟨m, hm⟩ := k0; exact DataW.trod_lt m _ _ _ hm
  have w0 : InAc W v0 := in_accts (hval 0 22 v0 rfl rfl) h0 (fun n hn => by have := List.all_eq_true.1 hz n (DataW.weights_mem_each (j := 0) (t := 22) rfl rfl n hn); simpa using this)
  have k1 := h1
  have lt1 : ∀ x ∈ p1, x.block < W.heap.size := by obtain ⟨m, hm⟩ := k1; exact DataW.trod_lt m _ _ _ hm
  have w1 : InDd11 W v1 := in_deed11 (hval 1 24 v1 rfl rfl) h1 (fun n hn => by have := List.all_eq_true.1 hz n (DataW.weights_mem_each (j := 1) (t := 24) rfl rfl n hn); simpa using this)
  clear hA0 hval0 hz0
  refine (walk v0 v1 W w0 w1).mono fun e W' ⟨he, bel⟩ => ?_
  subst he
  exact ⟨_, rfl, _, _, _, [], _, [], hW', trodAll_mk1 (shut_bool Try.underlying4 _), (trodAll_cons_mk (Below.trod laidOut (by kernel_rfl) (of_decide_eq_true (by kernel_rfl)) k0 bel lt0) (trodAll_cons_mk (Below.trod laidOut (by kernel_rfl) (of_decide_eq_true (by kernel_rfl)) k1 bel lt1) trodAll_mk0)), rfl, bel.frame _, fun h => by cases h⟩

theorem over : Rows.escrowTurnsRow.holds Try.pinned (OpenSpec.ofChange Rows.escrowTurnsSpec) :=
  OpenClaim.holds_of_wide 3 Try.f3 rfl rfl rfl rfl rfl rfl rfl ⟨rfl, rfl, rfl, rfl, rfl⟩ rfl rfl rfl rfl rfl (by kernel_rfl) Try.func3 (by kernel_rfl)
    (of_decide_eq_true (by kernel_rfl)) (by unfold Func.isWrapper; first | (rw [if_pos (by decide +kernel)]; kernel_rfl) | (rw [if_neg (by decide +kernel)]; exact ⟨rfl, rfl⟩))
    (fun os started H enc _ => lifted os started H enc)
end Go.Proofs.Ytbihgcmnllajpaa.escrowTurns
namespace Go.Proofs.Ytbihgcmnllajpaa
theorem escrowTurns_holds : Rows.EscrowTurnsSaid := escrowTurns.over
end Go.Proofs.Ytbihgcmnllajpaa
