/- Any key's number, rights and what may be done are as the document says. -/
import Derived.Test.YtbihgcmnllajpaaRows
import Derived.WalkKit
import Derived.ProofKit
import Derived.OpenShut
import Derived.ShutString
import Derived.ChangeOld
import Derived.Below
import Derived.SizedLaws
import Derived.Test.YtbihgcmnllajpaaGEq
namespace Go.Proofs.Ytbihgcmnllajpaa.escrowTells
open Go.ChangeShapes Go.WideShapes Go.ChangeAt Go.RowKit
set_option linter.unusedVariables false

theorem own : ownKnob Try.prog.godebug = none := by kernel_rfl
theorem laidOut : laidOutB Try.prog = true := by kernel_rfl

set_option maxRecDepth 4000 in
set_option maxHeartbeats 16000000 in
theorem walk (v0 : Value) (v1 : Value) (a2 : Int) (w : World) (w0 : InAc w v0) (w1 : InDd11 w v1) (w2 : (Lit.int .i64 a2).wf = true) :
    Calls Try.prog 4 #[v0, v1, .int .i64 a2] w fun e w' => e = .returned (.bool true) ∧ Below w.heap.size w w' := by
  obtain ⟨a, n, cap, s, rfl, hA, hcp⟩ := w0
  obtain ⟨t, r, q, m, rfl⟩ := w1
  obtain ⟨f, rfl⟩ : ∃ f : Int, f = a2 := ⟨_, rfl⟩
  have HV := hide hA
  have HCP := hide hcp
  have HLEN := hide hA.1.1
  have BB := hide (bel1 w (.cells #[.string t, .int .i64 r, .int .i64 q, .int .i64 m] 24))
  have d0 := cell_new w #[.string t, .int .i64 r, .int .i64 q, .int .i64 m] 24 _ rfl 0 _ rfl
  have d1 := cell_new w #[.string t, .int .i64 r, .int .i64 q, .int .i64 m] 24 _ rfl 1 _ rfl
  have d2 := cell_new w #[.string t, .int .i64 r, .int .i64 q, .int .i64 m] 24 _ rfl 2 _ rfl
  have d3 := cell_new w #[.string t, .int .i64 r, .int .i64 q, .int .i64 m] 24 _ rfl 3 _ rfl
  clear hA hcp
  obtain ⟨z, hz⟩ : ∃ z, num11 s t = z := ⟨_, rfl⟩
  obtain ⟨y, hy⟩ : ∃ y, rgt11 s t r f = y := ⟨_, rfl⟩
  obtain ⟨x, hx⟩ : ∃ x, may11 s t r f m = x := ⟨_, rfl⟩
  obtain ⟨mr, hmr⟩ : ∃ b, mayA s = b := ⟨_, rfl⟩
  have HNP : Hid (∀ W, AC W a n s → Calls Try.prog 16 #[.slice a n cap, .string t] W fun e w' => e = .returned (.int .i64 z) ∧ Below W.heap.size W w') := fun W g => by rw [← hz]; exact Number11_any a n cap s t W g
  have HRP : Hid (∀ W, AC W a n s → Calls Try.prog 17 #[.slice a n cap, .string t, .int .i64 r, .int .i64 f] W fun e w' => e = .returned (.int .i64 y) ∧ Below W.heap.size W w') := fun W g => by rw [← hy]; exact Rights11_any a n cap s t r f W g
  have HMP : Hid (∀ W, AC W a n s → Calls Try.prog 18 #[.slice a n cap, .string t, .int .i64 r, .int .i64 f, .int .i64 m] W fun e w' => e = .returned (.int .i64 x) ∧ Below W.heap.size W w') := fun W g => by rw [← hx]; exact May11_any a n cap s t r f m W g
  have HRG : Hid (∀ W, AC W a n s → Calls Try.prog 11 #[.slice a n cap] W fun e w' => e = .returned (.bool mr) ∧ Below W.heap.size W w') := fun W g => by rw [← hmr]; exact Right11_ref a n cap s W g
  have HZ := hide hz
  have HY := hide hy
  have HX := hide hx
  have HMR := hide hmr
  clear hz hy hx hmr
  go_enter Try.func4, Try.ntmps4
  go_wp2_with (go_at_call 7; refine (light11 a n cap s _ (HV.out.below BB.out)).mono ?_; rintro e w1 ⟨bl, rfl, hl, rfl⟩; refine Stop.at ?_)
  unfold Stop
  cases bl
  · clear hl
    go_wp2_with (go_at_call 8; refine (awake11 _).mono ?_; rintro e wz ⟨rfl, hb⟩)
    go_ret
    exact ⟨rfl, bel_next BB.out hb⟩
  · obtain ⟨hn60, hfew⟩ := hl rfl
    clear hl hfew
    by_cases h1 : (t.size : Int) ≤ 100
    · go_upto_region 4 with (go_at_call 11; refine (HRG.out _ (HV.out.below BB.out)).mono ?_; rintro e wy ⟨rfl, hb⟩; replace BB := hide (bel_next BB.out hb); (try replace d0 := bcell hb d0); (try replace d1 := bcell hb d1); (try replace d2 := bcell hb d2); (try replace d3 := bcell hb d3); (try replace HN2 := hide (HN2.out.below hb)); (try replace HN3 := hide (HN3.out.below hb)); (try replace HN5 := hide (HN5.out.below hb)); (try replace HN6 := hide (HN6.out.below hb)); clear hb)
      generalize w.heap.size = gb at d0 d1 d2 d3
      generalize hwu : wy = u at *
      clear hwu
      refine wp_region_held_drew (S := fun W => Below u.heap.size u W) (by kernel_rfl) ((Below.refl _ u).drew) (fun hS0 => ?_)
      refine takeInH 0 23 ?v1 rfl rfl (by kernel_rfl) (by kernel_rfl) (by kernel_rfl) (fun _ _ _ h => h) (by kernel_rfl) hS0 ?hy1 ?_
      case hy1 => (intro W hW; clear hW; go_simp; try rfl)
      simp only [Act.put, List.setIfInBounds_toArray, List.set_cons_zero, List.set_cons_succ]
      refine takeInH 1 24 ?v2 rfl rfl (by kernel_rfl) (by kernel_rfl) (by kernel_rfl) (fun _ _ _ h => h) (by kernel_rfl) hS0 ?hy2 ?_
      case hy2 => (intro W hW; clear hW; go_simp; try rfl)
      simp only [Act.put, List.setIfInBounds_toArray, List.set_cons_zero, List.set_cons_succ]
      refine takeInH 2 25 ?v3 rfl rfl (by kernel_rfl) (by kernel_rfl) (by kernel_rfl) (fun _ _ _ h => h) (by kernel_rfl) hS0 ?hy3 ?_
      case hy3 => (intro W hW; have e0 := bcell hW d0; have e1 := bcell hW d1; have e2 := bcell hW d3; clear hW; go_simp; try rfl)
      simp only [Act.put, List.setIfInBounds_toArray, List.set_cons_zero, List.set_cons_succ]
      refine takeInH 4 27 ?v4 rfl rfl (by kernel_rfl) (by kernel_rfl) (by kernel_rfl) (fun _ _ _ h => h) (by kernel_rfl) hS0 ?hy4 ?_
      case hy4 => (intro W hW; clear hW; go_simp; try rfl)
      simp only [Act.put, List.setIfInBounds_toArray, List.set_cons_zero, List.set_cons_succ]
      refine takeInH 5 28 ?v5 rfl rfl (by kernel_rfl) (by kernel_rfl) (by kernel_rfl) (fun _ _ _ h => h) (by kernel_rfl) hS0 ?hy5 ?_
      case hy5 => (intro W hW; clear hW; go_simp; try rfl)
      simp only [Act.put, List.setIfInBounds_toArray, List.set_cons_zero, List.set_cons_succ]
      refine takeInH 6 29 ?v6 rfl rfl (by kernel_rfl) (by kernel_rfl) (by kernel_rfl) (fun _ _ _ h => h) (by kernel_rfl) hS0 ?hy6 ?_
      case hy6 => (intro W hW; have e0 := bcell hW d0; have e1 := bcell hW d1; have e2 := bcell hW d3; clear hW; go_simp; try rfl)
      simp only [Act.put, List.setIfInBounds_toArray, List.set_cons_zero, List.set_cons_succ]
      refine takeInH 7 30 ?v7 rfl rfl (by kernel_rfl) (by kernel_rfl) (by kernel_rfl) (fun _ _ _ h => h) (by kernel_rfl) hS0 ?hy7 ?_
      case hy7 => (intro W hW; clear hW; go_simp; try rfl)
      simp only [Act.put, List.setIfInBounds_toArray, List.set_cons_zero, List.set_cons_succ]
      refine takeInH 8 31 ?v8 rfl rfl (by kernel_rfl) (by kernel_rfl) (by kernel_rfl) (fun _ _ _ h => h) (by kernel_rfl) hS0 ?hy8 ?_
      case hy8 => (intro W hW; have e0 := bcell hW d0; have e1 := bcell hW d1; have e2 := bcell hW d3; clear hW; go_simp; try rfl)
      simp only [Act.put, List.setIfInBounds_toArray, List.set_cons_zero, List.set_cons_succ]
      refine takeInH 9 32 ?v9 rfl rfl (by kernel_rfl) (by kernel_rfl) (by kernel_rfl) (fun _ _ _ h => h) (by kernel_rfl) hS0 ?hy9 ?_
      case hy9 => (intro W hW; clear hW; go_simp; try rfl)
      simp only [Act.put, List.setIfInBounds_toArray, List.set_cons_zero, List.set_cons_succ]
      refine takeInH 11 34 ?v10 rfl rfl (by kernel_rfl) (by kernel_rfl) (by kernel_rfl) (fun _ _ _ h => h) (by kernel_rfl) hS0 ?hy10 ?_
      case hy10 => (intro W hW; clear hW; go_simp; try rfl)
      simp only [Act.put, List.setIfInBounds_toArray, List.set_cons_zero, List.set_cons_succ]
      refine takeInH 12 35 ?v11 rfl rfl (by kernel_rfl) (by kernel_rfl) (by kernel_rfl) (fun _ _ _ h => h) (by kernel_rfl) hS0 ?hy11 ?_
      case hy11 => (intro W hW; clear hW; go_simp; try rfl)
      simp only [Act.put, List.setIfInBounds_toArray, List.set_cons_zero, List.set_cons_succ]
      refine takeInH 13 36 ?v12 rfl rfl (by kernel_rfl) (by kernel_rfl) (by kernel_rfl) (fun _ _ _ h => h) (by kernel_rfl) hS0 ?hy12 ?_
      case hy12 => (intro W hW; have e0 := bcell hW d0; have e1 := bcell hW d1; have e2 := bcell hW d3; clear hW; go_simp; try rfl)
      simp only [Act.put, List.setIfInBounds_toArray, List.set_cons_zero, List.set_cons_succ]
      refine takeInH 14 37 ?v13 rfl rfl (by kernel_rfl) (by kernel_rfl) (by kernel_rfl) (fun _ _ _ h => h) (by kernel_rfl) hS0 ?hy13 ?_
      case hy13 => (intro W hW; clear hW; go_simp; try rfl)
      simp only [Act.put, List.setIfInBounds_toArray, List.set_cons_zero, List.set_cons_succ]
      refine takeInH 15 38 ?v14 rfl rfl (by kernel_rfl) (by kernel_rfl) (by kernel_rfl) (fun _ _ _ h => h) (by kernel_rfl) hS0 ?hy14 ?_
      case hy14 => (intro W hW; have e0 := bcell hW d0; have e1 := bcell hW d1; have e2 := bcell hW d3; clear hW; go_simp; try rfl)
      simp only [Act.put, List.setIfInBounds_toArray, List.set_cons_zero, List.set_cons_succ]
      refine takeInH 16 39 ?v15 rfl rfl (by kernel_rfl) (by kernel_rfl) (by kernel_rfl) (fun _ _ _ h => h) (by kernel_rfl) hS0 ?hy15 ?_
      case hy15 => (intro W hW; clear hW; go_simp; try rfl)
      simp only [Act.put, List.setIfInBounds_toArray, List.set_cons_zero, List.set_cons_succ]
      refine takeInH 17 40 ?v16 rfl rfl (by kernel_rfl) (by kernel_rfl) (by kernel_rfl) (fun _ _ _ h => h) (by kernel_rfl) hS0 ?hy16 ?_
      case hy16 => (intro W hW; clear hW; go_simp; try rfl)
      simp only [Act.put, List.setIfInBounds_toArray, List.set_cons_zero, List.set_cons_succ]
      refine takeInH 18 41 ?v17 rfl rfl (by kernel_rfl) (by kernel_rfl) (by kernel_rfl) (fun _ _ _ h => h) (by kernel_rfl) hS0 ?hy17 ?_
      case hy17 => (intro W hW; have e0 := bcell hW d0; have e1 := bcell hW d1; have e2 := bcell hW d3; clear hW; go_simp; try rfl)
      simp only [Act.put, List.setIfInBounds_toArray, List.set_cons_zero, List.set_cons_succ]
      refine wpAnyH_ready (rs := [3]) (by kernel_rfl) (by simp) ?_
      refine AllReadyH.cons rfl (fun K hK => ?_) AllReadyH.nil
      go_simp
      refine (HNP.out _ (HV.out.below (bel_next BB.out hS0))).mono ?_
      rintro e wy ⟨rfl, hb⟩
      refine hK.out _ _ ?hs18 (fun hS1 => ?_)
      case hs18 => exact bel_next hS0 hb
      clear hK K hb
      try simp only [Act.put, List.setIfInBounds_toArray, List.set_cons_zero, List.set_cons_succ]
      refine wpAnyH_ready (rs := [10]) (by kernel_rfl) (by simp) ?_
      refine AllReadyH.cons rfl (fun K hK => ?_) AllReadyH.nil
      go_simp
      refine (HRP.out _ (HV.out.below (bel_next BB.out hS1))).mono ?_
      rintro e wy ⟨rfl, hb⟩
      refine hK.out _ _ ?hs19 (fun hS2 => ?_)
      case hs19 => exact bel_next hS1 hb
      clear hK K hb
      try simp only [Act.put, List.setIfInBounds_toArray, List.set_cons_zero, List.set_cons_succ]
      refine wpAnyH_ready (rs := [19]) (by kernel_rfl) (by simp) ?_
      refine AllReadyH.cons rfl (fun K hK => ?_) AllReadyH.nil
      go_simp
      refine (HMP.out _ (HV.out.below (bel_next BB.out hS2))).mono ?_
      rintro e wy ⟨rfl, hb⟩
      refine hK.out _ _ ?hs20 (fun hS3 => ?_)
      case hs20 => exact bel_next hS2 hb
      clear hK K hb
      try simp only [Act.put, List.setIfInBounds_toArray, List.set_cons_zero, List.set_cons_succ]
      refine takeInH 20 8 ?v21 rfl rfl (by kernel_rfl) (by kernel_rfl) (by kernel_rfl) (fun _ _ _ h => h) (by kernel_rfl) hS3 ?hy21 ?_
      case hy21 => (intro W hW; clear hW; go_simp; try rfl)
      simp only [Act.put, List.setIfInBounds_toArray, List.set_cons_zero, List.set_cons_succ]
      refine takeInH 21 9 ?v22 rfl rfl (by kernel_rfl) (by kernel_rfl) (by kernel_rfl) (fun _ _ _ h => h) (by kernel_rfl) hS3 ?hy22 ?_
      case hy22 => (intro W hW; clear hW; go_simp; try rfl)
      simp only [Act.put, List.setIfInBounds_toArray, List.set_cons_zero, List.set_cons_succ]
      refine takeInH 22 10 ?v23 rfl rfl (by kernel_rfl) (by kernel_rfl) (by kernel_rfl) (fun _ _ _ h => h) (by kernel_rfl) hS3 ?hy23 ?_
      case hy23 => (intro W hW; clear hW; go_simp; try rfl)
      simp only [Act.put, List.setIfInBounds_toArray, List.set_cons_zero, List.set_cons_succ]
      refine wpAnyH_done (by kernel_rfl) ?_ _
      replace d0 := bcell hS3 d0
      replace d1 := bcell hS3 d1
      replace d3 := bcell hS3 d3
      replace BB := hide (bel_next BB.out hS3)
      clear hS3 d2
      cases mr
      · have hm := HMR.out
        obtain rfl : z = 0 := by rw [← HZ.out]; exact num11_no hm t
        obtain rfl : y = 0 := by rw [← HY.out]; unfold rgt11; rw [hm]; rfl
        obtain rfl : x = 1 := by rw [← HX.out]; unfold may11; rw [hm]; rfl
        clear hm HZ HY HX
        go_wp2_with (first | (go_at_call 8; refine (awake11 _).mono ?_; rintro e wz ⟨rfl, hb⟩))
        go_ret
        exact ⟨by first | rfl | (simp; omega) | (simp [*]), bel_next BB.out hb⟩
      · have hm := HMR.out
        have hbd := bd_of (havA_may hm t)
        have HNR : Hid (∀ W, AC W a n s → Calls Try.prog 19 #[.slice a n cap, .string t] W fun e w' => e = .returned (.int .i64 z) ∧ w' = W) := fun W g => by
          rw [← HZ.out, num11_yes hm]
          exact Number11_ref a n cap s t W g hbd
        rcases hr : okRep r with _ | _
        · have HR := hide hr
          obtain rfl : y = 0 := by rw [← HY.out]; unfold rgt11; rw [hr, Bool.and_false]; rfl
          obtain rfl : x = 1 := by rw [← HX.out]; unfold may11; rw [hr]; simp
          clear hm hr hbd HZ HY HX
          go_wp2_with (first | (go_at_call 19; refine (HNR.out _ (HV.out.below BB.out)).mono ?_; rintro e wy ⟨rfl, rfl⟩) | (go_at_call 12; refine (there11 r _).mono ?_; rintro e wy ⟨rfl, rfl⟩; rw [show okRep r = false from HR.out]) | (go_at_call 8; refine (awake11 _).mono ?_; rintro e wz ⟨rfl, hb⟩))
          go_ret
          exact ⟨by first | rfl | (simp; omega) | (simp [*]), bel_next BB.out hb⟩
        · have HR := hide hr
          by_cases f1 : (0 : Int) < f
          · have hf : okFlo f = false := decide_eq_false (by omega)
            obtain rfl : y = 0 := by rw [← HY.out]; unfold rgt11; rw [hf, Bool.and_false]; rfl
            obtain rfl : x = 1 := by rw [← HX.out]; unfold may11; rw [hf]; simp
            clear hm hr hf hbd HZ HY HX
            go_wp2_with (first | (go_at_call 19; refine (HNR.out _ (HV.out.below BB.out)).mono ?_; rintro e wy ⟨rfl, rfl⟩) | (go_at_call 12; refine (there11 r _).mono ?_; rintro e wy ⟨rfl, rfl⟩; rw [show okRep r = true from HR.out]) | (go_at_call 8; refine (awake11 _).mono ?_; rintro e wz ⟨rfl, hb⟩))
            go_ret
            exact ⟨by first | rfl | (simp; omega) | (simp [*]), bel_next BB.out hb⟩
          · by_cases f2 : f < -1000
            · have hf : okFlo f = false := decide_eq_false (by omega)
              obtain rfl : y = 0 := by rw [← HY.out]; unfold rgt11; rw [hf, Bool.and_false]; rfl
              obtain rfl : x = 1 := by rw [← HX.out]; unfold may11; rw [hf]; simp
              clear hm hr hf hbd HZ HY HX
              go_wp2_with (first | (go_at_call 19; refine (HNR.out _ (HV.out.below BB.out)).mono ?_; rintro e wy ⟨rfl, rfl⟩) | (go_at_call 12; refine (there11 r _).mono ?_; rintro e wy ⟨rfl, rfl⟩; rw [show okRep r = true from HR.out]) | (go_at_call 8; refine (awake11 _).mono ?_; rintro e wz ⟨rfl, hb⟩))
              go_ret
              exact ⟨by first | rfl | (simp; omega) | (simp [*]), bel_next BB.out hb⟩
            · have hf : okFlo f = true := decide_eq_true (by omega)
              obtain ⟨rr, hrr, hre⟩ := repN hr
              have HYR : Hid (rgtA (havA s t) r.toNat f = y) := by unfold Hid; rw [← HY.out]; unfold rgt11; rw [hm, hr, hf]; rfl
              have HRR : Hid (∀ W, AC W a n s → Calls Try.prog 20 #[.slice a n cap, .string t, .int .i64 r, .int .i64 f] W fun e w' => e = .returned (.int .i64 y) ∧ w' = W) := fun W g => by
                rw [← HYR.out, hre, show ((rr : Int) + 1).toNat = rr + 1 by omega]
                exact Rights11_ref a n cap s t rr hrr f (by omega) W g hbd
              clear hre hrr
              by_cases k1 : t.size = 0
              · obtain rfl : x = 1 := by rw [← HX.out]; unfold may11; rw [show mayK t = false by simp [mayK, k1]]; simp
                have k2 := eqT k1
                clear hm hr hf hbd HZ HY HX HYR
                subst k2
                clear k1
                go_wp2_with (first | (go_at_call 19; refine (HNR.out _ (HV.out.below BB.out)).mono ?_; rintro e wy ⟨rfl, rfl⟩) | (go_at_call 12; refine (there11 r _).mono ?_; rintro e wy ⟨rfl, rfl⟩; rw [show okRep r = true from HR.out]) | (go_at_call 20; refine (HRR.out _ (HV.out.below BB.out)).mono ?_; rintro e wy ⟨rfl, rfl⟩) | (go_at_call 8; refine (awake11 _).mono ?_; rintro e wz ⟨rfl, hb⟩))
                go_ret
                exact ⟨by first | rfl | (simp; omega) | (simp [*]), bel_next BB.out hb⟩
              · obtain ⟨k2, k3, k4⟩ := neT k1
                by_cases k5 : (t.size : Int) ≤ 32
                · have hk : mayK t = true := by simp [mayK]; omega
                  by_cases m1 : m < 1
                  · obtain rfl : x = 1 := by rw [← HX.out]; unfold may11; rw [show okMuch m = false from decide_eq_false (by omega)]; simp
                    clear hm hr hf hk hbd HZ HY HX HYR
                    go_wp2_with (first | (go_at_call 19; refine (HNR.out _ (HV.out.below BB.out)).mono ?_; rintro e wy ⟨rfl, rfl⟩) | (go_at_call 12; refine (there11 r _).mono ?_; rintro e wy ⟨rfl, rfl⟩; rw [show okRep r = true from HR.out]) | (go_at_call 20; refine (HRR.out _ (HV.out.below BB.out)).mono ?_; rintro e wy ⟨rfl, rfl⟩) | (go_at_call 8; refine (awake11 _).mono ?_; rintro e wz ⟨rfl, hb⟩))
                    go_ret
                    exact ⟨by first | rfl | (simp; omega) | (simp [*]), bel_next BB.out hb⟩
                  · by_cases m2 : (1000 : Int) < m
                    · obtain rfl : x = 1 := by rw [← HX.out]; unfold may11; rw [show okMuch m = false from decide_eq_false (by omega)]; simp
                      clear hm hr hf hk hbd HZ HY HX HYR
                      go_wp2_with (first | (go_at_call 19; refine (HNR.out _ (HV.out.below BB.out)).mono ?_; rintro e wy ⟨rfl, rfl⟩) | (go_at_call 12; refine (there11 r _).mono ?_; rintro e wy ⟨rfl, rfl⟩; rw [show okRep r = true from HR.out]) | (go_at_call 20; refine (HRR.out _ (HV.out.below BB.out)).mono ?_; rintro e wy ⟨rfl, rfl⟩) | (go_at_call 8; refine (awake11 _).mono ?_; rintro e wz ⟨rfl, hb⟩))
                      go_ret
                      exact ⟨by first | rfl | (simp; omega) | (simp [*]), bel_next BB.out hb⟩
                    · have hx : x = if y < m then 5 else 0 := by
                        rw [← HX.out, ← HYR.out]
                        unfold may11
                        rw [hm, hk, hr, hf, show okMuch m = true from decide_eq_true (by omega)]
                        rfl
                      by_cases hz : y < m
                      · rw [if_pos hz] at hx
                        subst hx
                        have hz2 : ¬ (m ≤ y) := by omega
                        have hz3 : decide (m ≤ y) = false := decide_eq_false hz2
                        have hz4 : decide (y < m) = true := decide_eq_true hz
                        clear hm hr hf hk hbd HZ HY HX HYR
                        go_wp2_with (first | (go_at_call 19; refine (HNR.out _ (HV.out.below BB.out)).mono ?_; rintro e wy ⟨rfl, rfl⟩) | (go_at_call 12; refine (there11 r _).mono ?_; rintro e wy ⟨rfl, rfl⟩; rw [show okRep r = true from HR.out]) | (go_at_call 20; refine (HRR.out _ (HV.out.below BB.out)).mono ?_; rintro e wy ⟨rfl, rfl⟩) | (go_at_call 21; refine (Same11_any a n cap s a n cap s _ (HV.out.below BB.out) (HV.out.below BB.out)).mono ?_; rintro e wy ⟨rfl, hb⟩; rw [decide_eq_true (rfl : s = s)]; replace BB := hide (bel_next BB.out hb); (try replace d0 := bcell hb d0); (try replace d1 := bcell hb d1); (try replace d2 := bcell hb d2); (try replace d3 := bcell hb d3); (try replace HN2 := hide (HN2.out.below hb)); (try replace HN3 := hide (HN3.out.below hb)); (try replace HN5 := hide (HN5.out.below hb)); (try replace HN6 := hide (HN6.out.below hb)); clear hb) | (go_at_call 8; refine (awake11 _).mono ?_; rintro e wz ⟨rfl, hb⟩))
                        go_ret
                        exact ⟨by first | rfl | (simp; omega) | (simp [*]), bel_next BB.out hb⟩
                      · rw [if_neg hz] at hx
                        subst hx
                        have hz2 : m ≤ y := by omega
                        have hz3 : decide (m ≤ y) = true := decide_eq_true hz2
                        have hz4 : decide (y < m) = false := decide_eq_false hz
                        clear hm hr hf hk hbd HZ HY HX HYR
                        go_wp2_with (first | (go_at_call 19; refine (HNR.out _ (HV.out.below BB.out)).mono ?_; rintro e wy ⟨rfl, rfl⟩) | (go_at_call 12; refine (there11 r _).mono ?_; rintro e wy ⟨rfl, rfl⟩; rw [show okRep r = true from HR.out]) | (go_at_call 20; refine (HRR.out _ (HV.out.below BB.out)).mono ?_; rintro e wy ⟨rfl, rfl⟩) | (go_at_call 21; refine (Same11_any a n cap s a n cap s _ (HV.out.below BB.out) (HV.out.below BB.out)).mono ?_; rintro e wy ⟨rfl, hb⟩; rw [decide_eq_true (rfl : s = s)]; replace BB := hide (bel_next BB.out hb); (try replace d0 := bcell hb d0); (try replace d1 := bcell hb d1); (try replace d2 := bcell hb d2); (try replace d3 := bcell hb d3); (try replace HN2 := hide (HN2.out.below hb)); (try replace HN3 := hide (HN3.out.below hb)); (try replace HN5 := hide (HN5.out.below hb)); (try replace HN6 := hide (HN6.out.below hb)); clear hb) | (go_at_call 8; refine (awake11 _).mono ?_; rintro e wz ⟨rfl, hb⟩))
                        go_ret
                        exact ⟨by first | rfl | (simp; omega) | (simp [*]), bel_next BB.out hb⟩
                · have k6 : (32 : Int) < (t.size : Int) := by omega
                  obtain rfl : x = 1 := by rw [← HX.out]; unfold may11; rw [show mayK t = false by simp [mayK]; omega]; simp
                  clear hm hr hf hbd HZ HY HX HYR
                  go_wp2_with (first | (go_at_call 19; refine (HNR.out _ (HV.out.below BB.out)).mono ?_; rintro e wy ⟨rfl, rfl⟩) | (go_at_call 12; refine (there11 r _).mono ?_; rintro e wy ⟨rfl, rfl⟩; rw [show okRep r = true from HR.out]) | (go_at_call 20; refine (HRR.out _ (HV.out.below BB.out)).mono ?_; rintro e wy ⟨rfl, rfl⟩) | (go_at_call 8; refine (awake11 _).mono ?_; rintro e wz ⟨rfl, hb⟩))
                  go_ret
                  exact ⟨by first | rfl | (simp; omega) | (simp [*]), bel_next BB.out hb⟩
    · go_wp2_with (go_at_call 8; refine (awake11 _).mono ?_; rintro e wz ⟨rfl, hb⟩)
      go_ret
      exact ⟨rfl, bel_next BB.out hb⟩

/-! ### The row's step -/
set_option maxRecDepth 100000 in
theorem lifted (os : Os) (started : os.Started) (H : Type) (enc : TypeId × Value → H) :
    ReturnsInHanded {} Try.checked os 4 .any (Rows.escrowTellsSpec.pre6 enc Try.prog Try.f4 Rows.escrowTellsRow.domain false) (Rows.escrowTellsSpec.post enc Try.prog Try.f4 false true false false) := by
  refine returnsInHanded_of_change_sized (C := Try.checked) own started (by kernel_rfl) Try.func4
    (ChangeSpec.witness6 (enc := enc) (C := Try.checked) false ⟨#[], #[.slice none 0 0, .agg #[.string ⟨#[]⟩, .int .i64 0, .int .i64 0, .int .i64 0], .int .i64 0], []⟩ 8 (by kernel_rfl) (by kernel_rfl) (by kernel_rfl) (by kernel_rfl)) ?_
  intro W base args ds gs before hval0 hW hcnd hz0 _
  have hval : ∀ (j : Nat) t v, Try.f4.params[j]? = some t → args[j]? = some v → Value.okWide Try.prog W .any base t v := hval0
  have hz : (DataW.weightsEach Try.prog (Try.f4.params.toList ++ Rows.escrowTellsSpec.plain.varTypes Try.prog) (ds ++ gs)).all (· ≤ reachBytes) = true := hz0
  have hW' := hW
  obtain ⟨p, q, hA0, hV, rfl, hfz, hnd⟩ := hW
  have hA : DataW.TrodAll enc Try.prog W 0 (fun _ => true) true Try.f4.params.toList args.toList ds p := hA0
  rw [Try.params4] at hA hval hz
  obtain ⟨v0, vs0, d0, ds0, p0, q0, hargs, rfl, rfl, h0, r0⟩ := trodAll_cons hA
  obtain ⟨v1, vs1, d1, ds1, p1, q1, rfl, rfl, rfl, h1, r1⟩ := trodAll_cons r0
  obtain ⟨v2, vs2, d2, ds2, p2, q2, rfl, rfl, rfl, h2, r2⟩ := trodAll_cons r1
  obtain ⟨rfl, rfl, rfl⟩ := trodAll_nil r2
  obtain rfl : args = #[v0, v1, v2] := by cases args; simp_all
  obtain ⟨rfl, rfl⟩ := trodVars_none hV
  have k0 := h0
  have lt0 : ∀ x ∈ p0, x.block < W.heap.size := by obtain ⟨m, hm⟩ := k0; exact DataW.trod_lt m _ _ _ hm
  have w0 : InAc W v0 := in_accts (hval 0 22 v0 rfl rfl) h0 (fun n hn => by have := List.all_eq_true.1 hz n (DataW.weights_mem_each (j := 0) (t := 22) rfl rfl n hn); simpa using this)
  have k1 := h1
  have lt1 : ∀ x ∈ p1, x.block < W.heap.size := by obtain ⟨m, hm⟩ := k1; exact DataW.trod_lt m _ _ _ hm
  have w1 : InDd11 W v1 := in_deed11 (hval 1 24 v1 rfl rfl) h1 (fun n hn => by have := List.all_eq_true.1 hz n (DataW.weights_mem_each (j := 1) (t := 24) rfl rfl n hn); simpa using this)
  obtain ⟨a2, rfl, rfl, rfl, w2⟩ := open_int Try.underlying3 (hval 2 3 v2 rfl rfl) h2
  clear hA0 hval0 hz0
  refine (walk v0 v1 a2 W w0 w1 w2).mono fun e W' ⟨he, bel⟩ => ?_
  subst he
  exact ⟨_, rfl, _, _, _, [], _, [], hW', trodAll_mk1 (shut_bool Try.underlying4 _), (trodAll_cons_mk (Below.trod laidOut (by kernel_rfl) (of_decide_eq_true (by kernel_rfl)) k0 bel lt0) (trodAll_cons_mk (Below.trod laidOut (by kernel_rfl) (of_decide_eq_true (by kernel_rfl)) k1 bel lt1) (trodAll_cons_mk (shut_int Try.underlying3 w2) trodAll_mk0))), rfl, bel.frame _, fun h => by cases h⟩

theorem over : Rows.escrowTellsRow.holds Try.pinned (OpenSpec.ofChange Rows.escrowTellsSpec) :=
  OpenClaim.holds_of_wide 4 Try.f4 rfl rfl rfl rfl rfl rfl rfl ⟨rfl, rfl, rfl, rfl, rfl⟩ rfl rfl rfl rfl rfl (by kernel_rfl) Try.func4 (by kernel_rfl)
    (of_decide_eq_true (by kernel_rfl)) (by unfold Func.isWrapper; first | (rw [if_pos (by decide +kernel)]; kernel_rfl) | (rw [if_neg (by decide +kernel)]; exact ⟨rfl, rfl⟩))
    (fun os started H enc _ => lifted os started H enc)
end Go.Proofs.Ytbihgcmnllajpaa.escrowTells
namespace Go.Proofs.Ytbihgcmnllajpaa
theorem escrowTells_holds : Rows.EscrowTellsSaid := escrowTells.over
end Go.Proofs.Ytbihgcmnllajpaa
