/- Rights that are moved turn no number; all rights together are the number less the floor. -/
import Derived.Test.YtbihgcmnllajpaaRows
import Derived.WalkKit
import Derived.ProofKit
import Derived.OpenShut
import Derived.ShutString
import Derived.ChangeOld
import Derived.Below
import Derived.SizedLaws
import Derived.Test.YtbihgcmnllajpaaGEq
namespace Go.Proofs.Ytbihgcmnllajpaa.escrowMoves
open Go.ChangeShapes Go.WideShapes Go.ChangeAt Go.RowKit
set_option linter.unusedVariables false

theorem own : ownKnob Try.prog.godebug = none := by kernel_rfl
theorem laidOut : laidOutB Try.prog = true := by kernel_rfl

set_option maxRecDepth 4000 in
set_option maxHeartbeats 16000000 in
theorem walk (v0 : Value) (v1 : Value) (a2 : Int) (w : World) (w0 : InAc w v0) (w1 : InDd11 w v1) (w2 : (Lit.int .u8 a2).wf = true) :
    Calls Try.prog 6 #[v0, v1, .int .u8 a2] w fun e w' => e = .returned (.bool true) ∧ Below w.heap.size w w' := by
  obtain ⟨a, n, cap, s, rfl, hA, hcp⟩ := w0
  obtain ⟨t, r, q, m, rfl⟩ := w1
  have HV := hide hA
  have HCP := hide hcp
  have HLEN := hide hA.1.1
  have BB := hide (bel1 w (.cells #[.string t, .int .i64 r, .int .i64 q, .int .i64 m] 24))
  have d0 := cell_new w #[.string t, .int .i64 r, .int .i64 q, .int .i64 m] 24 _ rfl 0 _ rfl
  have d1 := cell_new w #[.string t, .int .i64 r, .int .i64 q, .int .i64 m] 24 _ rfl 1 _ rfl
  have d2 := cell_new w #[.string t, .int .i64 r, .int .i64 q, .int .i64 m] 24 _ rfl 2 _ rfl
  have d3 := cell_new w #[.string t, .int .i64 r, .int .i64 q, .int .i64 m] 24 _ rfl 3 _ rfl
  clear hA hcp
  have hu : 0 ≤ a2 ∧ a2 < 256 := by simp [Lit.wf, IntKind.min, IntKind.max, IntKind.bits, IntKind.signed] at w2; omega
  obtain ⟨lo, hlo⟩ : ∃ lo : Int, -a2 = lo := ⟨_, rfl⟩
  have hlb : -255 ≤ lo ∧ lo ≤ 0 := by omega
  have hc1 : IntKind.i64.wrap a2 = a2 := by rw [IntKind.wrap_i64]; omega
  have hc2 : IntKind.i64.wrap (-a2) = lo := by rw [IntKind.wrap_i64]; omega
  have hf : okFlo lo = true := decide_eq_true (by omega)
  clear hlo w2
  go_enter Try.func6, Try.ntmps6
  go_wp2_with (go_at_call 7; refine (light11 a n cap s _ (HV.out.below BB.out)).mono ?_; rintro e w1 ⟨bl, rfl, hl, rfl⟩; refine Stop.at ?_)
  unfold Stop
  cases bl
  · clear hl
    go_wp2_with (go_at_call 8; refine (awake11 _).mono ?_; rintro e wz ⟨rfl, hb⟩)
    go_ret
    exact ⟨rfl, bel_next BB.out hb⟩
  · obtain ⟨hn60, hfew⟩ := hl rfl
    clear hl hfew
    by_cases h1 : (t.size : Int) ≤ 100
    · rcases ho : okMov s t r q m with _ | _
      · have HNO := hide ho
        clear ho
        go_wp2_with (first | (go_at_call 10; refine (Move11_bad a n cap s t r q m _ (HV.out.below BB.out) HNO.out).mono ?_; rintro e wy ⟨rfl, hb⟩; replace BB := hide (bel_next BB.out hb); (try replace d0 := bcell hb d0); (try replace d1 := bcell hb d1); (try replace d2 := bcell hb d2); (try replace d3 := bcell hb d3); (try replace HN2 := hide (HN2.out.below hb)); (try replace HN3 := hide (HN3.out.below hb)); (try replace HN5 := hide (HN5.out.below hb)); (try replace HN6 := hide (HN6.out.below hb)); clear hb) | (go_at_call 8; refine (awake11 _).mono ?_; rintro e wz ⟨rfl, hb⟩))
        go_ret
        exact ⟨by first | rfl | (simp; omega) | (simp [*]), bel_next BB.out hb⟩
      · obtain ⟨hm, hk, hr, hq, hmu⟩ := okMov_iff.1 ho
        obtain ⟨rr, hrr, rfl⟩ := repN hr
        obtain ⟨qq, hqq, rfl⟩ := repN hq
        clear ho hr hq
        rcases hma : mayA (movA s t (rr + 1) (qq + 1) m) with _ | _
        · have HMV := hide (fun W (g : AC W a n s) => Move11_full a n cap s t rr qq hrr hqq m hmu W g HCP.out hm hk hma)
          clear hm hk hma
          go_wp2_with (first | (go_at_call 10; refine (HMV.out _ (HV.out.below BB.out)).mono ?_; rintro e wy ⟨rfl, hb⟩; replace BB := hide (bel_next BB.out hb); (try replace d0 := bcell hb d0); (try replace d1 := bcell hb d1); (try replace d2 := bcell hb d2); (try replace d3 := bcell hb d3); (try replace HN2 := hide (HN2.out.below hb)); (try replace HN3 := hide (HN3.out.below hb)); (try replace HN5 := hide (HN5.out.below hb)); (try replace HN6 := hide (HN6.out.below hb)); clear hb) | (go_at_call 8; refine (awake11 _).mono ?_; rintro e wz ⟨rfl, hb⟩))
          go_ret
          exact ⟨by first | rfl | (simp; omega) | (simp [*]), bel_next BB.out hb⟩
        · have HMV : Hid (∀ W, AC W a n s → Calls Try.prog 10 #[.slice a n cap, .string t, .int .i64 ((rr : Int) + 1), .int .i64 ((qq : Int) + 1), .int .i64 m] W fun e w' => ∃ p cp, e = .returned (.tuple #[.slice p (movA s t (rr + 1) (qq + 1) m).length cp, .int .i64 0]) ∧ AC w' p (movA s t (rr + 1) (qq + 1) m).length (movA s t (rr + 1) (qq + 1) m) ∧ CP p (movA s t (rr + 1) (qq + 1) m).length cp ∧ Below W.heap.size W w') := fun W g => Move11_good a n cap s t rr qq hrr hqq m hmu W g HCP.out hm hk hma
          have hnum := movA_num hm t (r := rr + 1) (q := qq + 1) (by omega) (by omega) m
          generalize movA s t (rr + 1) (qq + 1) m = A at *
          have hbA := havA_may hma t
          have hsum := rgtA_sum (havA A t) lo
          have hnb := numA_bd hbA
          have hy := fun i => rgtA_bd hbA i (f := lo) (by omega)
          obtain ⟨z, hz⟩ : ∃ z, numA (havA A t) = z := ⟨_, rfl⟩
          have HNA : Hid (∀ p c W, AC W p A.length A → Calls Try.prog 16 #[.slice p A.length c, .string t] W fun e w' => e = .returned (.int .i64 z) ∧ Below W.heap.size W w') := fun p c W g => by
            rw [← hz, ← num11_yes hma]
            exact Number11_any p A.length c A t W g
          have HNL : Hid (∀ W, AC W a n s → Calls Try.prog 16 #[.slice a n cap, .string t] W fun e w' => e = .returned (.int .i64 z) ∧ Below W.heap.size W w') := fun W g => by
            rw [← hz, hnum, ← num11_yes hm]
            exact Number11_any a n cap s t W g
          rw [hz] at hsum hnb
          have hy1 := hy 1
          have HR1 : Hid (∀ p c W, AC W p A.length A → Calls Try.prog 17 #[.slice p A.length c, .string t, .int .i64 1, .int .i64 lo] W fun e w' => e = .returned (.int .i64 (rgtA (havA A t) 1 lo)) ∧ Below W.heap.size W w') := fun p c W g => by
            have := Rights11_any p A.length c A t 1 lo W g
            rw [show rgt11 A t 1 lo = rgtA (havA A t) 1 lo by unfold rgt11; rw [hma, hf]; rfl] at this
            exact this
          generalize rgtA (havA A t) 1 lo = y1 at *
          have hy2 := hy 2
          have HR2 : Hid (∀ p c W, AC W p A.length A → Calls Try.prog 17 #[.slice p A.length c, .string t, .int .i64 2, .int .i64 lo] W fun e w' => e = .returned (.int .i64 (rgtA (havA A t) 2 lo)) ∧ Below W.heap.size W w') := fun p c W g => by
            have := Rights11_any p A.length c A t 2 lo W g
            rw [show rgt11 A t 2 lo = rgtA (havA A t) 2 lo by unfold rgt11; rw [hma, hf]; rfl] at this
            exact this
          generalize rgtA (havA A t) 2 lo = y2 at *
          have hy3 := hy 3
          have HR3 : Hid (∀ p c W, AC W p A.length A → Calls Try.prog 17 #[.slice p A.length c, .string t, .int .i64 3, .int .i64 lo] W fun e w' => e = .returned (.int .i64 (rgtA (havA A t) 3 lo)) ∧ Below W.heap.size W w') := fun p c W g => by
            have := Rights11_any p A.length c A t 3 lo W g
            rw [show rgt11 A t 3 lo = rgtA (havA A t) 3 lo by unfold rgt11; rw [hma, hf]; rfl] at this
            exact this
          generalize rgtA (havA A t) 3 lo = y3 at *
          have hy4 := hy 4
          have HR4 : Hid (∀ p c W, AC W p A.length A → Calls Try.prog 17 #[.slice p A.length c, .string t, .int .i64 4, .int .i64 lo] W fun e w' => e = .returned (.int .i64 (rgtA (havA A t) 4 lo)) ∧ Below W.heap.size W w') := fun p c W g => by
            have := Rights11_any p A.length c A t 4 lo W g
            rw [show rgt11 A t 4 lo = rgtA (havA A t) 4 lo by unfold rgt11; rw [hma, hf]; rfl] at this
            exact this
          generalize rgtA (havA A t) 4 lo = y4 at *
          have hy5 := hy 5
          have HR5 : Hid (∀ p c W, AC W p A.length A → Calls Try.prog 17 #[.slice p A.length c, .string t, .int .i64 5, .int .i64 lo] W fun e w' => e = .returned (.int .i64 (rgtA (havA A t) 5 lo)) ∧ Below W.heap.size W w') := fun p c W g => by
            have := Rights11_any p A.length c A t 5 lo W g
            rw [show rgt11 A t 5 lo = rgtA (havA A t) 5 lo by unfold rgt11; rw [hma, hf]; rfl] at this
            exact this
          generalize rgtA (havA A t) 5 lo = y5 at *
          obtain ⟨Z2, hZ2⟩ : ∃ Z, y1 + y2 = Z := ⟨_, rfl⟩
          obtain ⟨Z3, hZ3⟩ : ∃ Z, Z2 + y3 = Z := ⟨_, rfl⟩
          obtain ⟨Z4, hZ4⟩ : ∃ Z, Z3 + y4 = Z := ⟨_, rfl⟩
          obtain ⟨Z5, hZ5⟩ : ∃ Z, Z4 + y5 = Z := ⟨_, rfl⟩
          have HW1 : Hid (IntKind.i64.wrap y1 = y1) := by unfold Hid; rw [IntKind.wrap_i64]; omega
          have HW2 : Hid (IntKind.i64.wrap (y1 + y2) = Z2) := by unfold Hid; rw [IntKind.wrap_i64]; omega
          have HW3 : Hid (IntKind.i64.wrap (Z2 + y3) = Z3) := by unfold Hid; rw [IntKind.wrap_i64]; omega
          have HW4 : Hid (IntKind.i64.wrap (Z3 + y4) = Z4) := by unfold Hid; rw [IntKind.wrap_i64]; omega
          have HW5 : Hid (IntKind.i64.wrap (Z4 + y5) = Z5) := by unfold Hid; rw [IntKind.wrap_i64]; omega
          have HW6 : Hid (IntKind.i64.wrap (z - lo) = Z5) := by unfold Hid; rw [IntKind.wrap_i64]; omega
          clear hm hk hma hnum hbA hsum hnb hy hy1 hy2 hy3 hy4 hy5 hZ2 hZ3 hZ4 hZ5 hz
          generalize A.length = nA at *
          go_wp2_with (go_at_call 10; refine (HMV.out _ (HV.out.below BB.out)).mono ?_; rintro e wy ⟨p3, c3, rfl, hn3, hc3, hb⟩; have HN3x := hide hn3; replace BB := hide (bel_next BB.out hb); (try replace d0 := bcell hb d0); (try replace d1 := bcell hb d1); (try replace d2 := bcell hb d2); (try replace d3 := bcell hb d3); (try replace HN2 := hide (HN2.out.below hb)); (try replace HN5 := hide (HN5.out.below hb)); (try replace HN6 := hide (HN6.out.below hb)); clear hb; have HN3 := HN3x; clear HN3x hn3 hc3)
          refine wp_loop_rounds 6 ?_
          rw [rounds_succ]
          have w1 := HW1.out
          go_wp2_with (go_at_call 17; refine (HR1.out _ _ _ HN3.out).mono ?_; rintro e wy ⟨rfl, hb⟩; replace BB := hide (bel_next BB.out hb); (try replace d0 := bcell hb d0); (try replace d1 := bcell hb d1); (try replace d2 := bcell hb d2); (try replace d3 := bcell hb d3); (try replace HN2 := hide (HN2.out.below hb)); (try replace HN3 := hide (HN3.out.below hb)); (try replace HN5 := hide (HN5.out.below hb)); (try replace HN6 := hide (HN6.out.below hb)); clear hb)
          clear w1
          rw [rounds_succ]
          have w2 := HW2.out
          go_wp2_with (go_at_call 17; refine (HR2.out _ _ _ HN3.out).mono ?_; rintro e wy ⟨rfl, hb⟩; replace BB := hide (bel_next BB.out hb); (try replace d0 := bcell hb d0); (try replace d1 := bcell hb d1); (try replace d2 := bcell hb d2); (try replace d3 := bcell hb d3); (try replace HN2 := hide (HN2.out.below hb)); (try replace HN3 := hide (HN3.out.below hb)); (try replace HN5 := hide (HN5.out.below hb)); (try replace HN6 := hide (HN6.out.below hb)); clear hb)
          clear w2
          rw [rounds_succ]
          have w3 := HW3.out
          go_wp2_with (go_at_call 17; refine (HR3.out _ _ _ HN3.out).mono ?_; rintro e wy ⟨rfl, hb⟩; replace BB := hide (bel_next BB.out hb); (try replace d0 := bcell hb d0); (try replace d1 := bcell hb d1); (try replace d2 := bcell hb d2); (try replace d3 := bcell hb d3); (try replace HN2 := hide (HN2.out.below hb)); (try replace HN3 := hide (HN3.out.below hb)); (try replace HN5 := hide (HN5.out.below hb)); (try replace HN6 := hide (HN6.out.below hb)); clear hb)
          clear w3
          rw [rounds_succ]
          have w4 := HW4.out
          go_wp2_with (go_at_call 17; refine (HR4.out _ _ _ HN3.out).mono ?_; rintro e wy ⟨rfl, hb⟩; replace BB := hide (bel_next BB.out hb); (try replace d0 := bcell hb d0); (try replace d1 := bcell hb d1); (try replace d2 := bcell hb d2); (try replace d3 := bcell hb d3); (try replace HN2 := hide (HN2.out.below hb)); (try replace HN3 := hide (HN3.out.below hb)); (try replace HN5 := hide (HN5.out.below hb)); (try replace HN6 := hide (HN6.out.below hb)); clear hb)
          clear w4
          rw [rounds_succ]
          have w5 := HW5.out
          go_wp2_with (go_at_call 17; refine (HR5.out _ _ _ HN3.out).mono ?_; rintro e wy ⟨rfl, hb⟩; replace BB := hide (bel_next BB.out hb); (try replace d0 := bcell hb d0); (try replace d1 := bcell hb d1); (try replace d2 := bcell hb d2); (try replace d3 := bcell hb d3); (try replace HN2 := hide (HN2.out.below hb)); (try replace HN3 := hide (HN3.out.below hb)); (try replace HN5 := hide (HN5.out.below hb)); (try replace HN6 := hide (HN6.out.below hb)); clear hb)
          clear w5
          rw [rounds_succ]
          have w6 := HW6.out
          go_upto_region 12 with fail
          generalize w.heap.size = gb at d0 d1 d2 d3
          generalize hwu : wy = u at *
          clear hwu
          refine wp_region_held_drew (S := fun W => Below u.heap.size u W) (by kernel_rfl) ((Below.refl _ u).drew) (fun hS0 => ?_)
          refine takeInH 0 53 ?v24 rfl rfl (by kernel_rfl) (by kernel_rfl) (by kernel_rfl) (fun _ _ _ h => h) (by kernel_rfl) hS0 ?hy24 ?_
          case hy24 => (intro W hW; clear hW; go_simp; try rfl)
          simp only [Act.put, List.setIfInBounds_toArray, List.set_cons_zero, List.set_cons_succ]
          refine takeInH 1 54 ?v25 rfl rfl (by kernel_rfl) (by kernel_rfl) (by kernel_rfl) (fun _ _ _ h => h) (by kernel_rfl) hS0 ?hy25 ?_
          case hy25 => (intro W hW; clear hW; go_simp; try rfl)
          simp only [Act.put, List.setIfInBounds_toArray, List.set_cons_zero, List.set_cons_succ]
          refine takeInH 2 55 ?v26 rfl rfl (by kernel_rfl) (by kernel_rfl) (by kernel_rfl) (fun _ _ _ h => h) (by kernel_rfl) hS0 ?hy26 ?_
          case hy26 => (intro W hW; have e0 := bcell hW d0; clear hW; go_simp; try rfl)
          simp only [Act.put, List.setIfInBounds_toArray, List.set_cons_zero, List.set_cons_succ]
          refine takeInH 4 57 ?v27 rfl rfl (by kernel_rfl) (by kernel_rfl) (by kernel_rfl) (fun _ _ _ h => h) (by kernel_rfl) hS0 ?hy27 ?_
          case hy27 => (intro W hW; clear hW; go_simp; try rfl)
          simp only [Act.put, List.setIfInBounds_toArray, List.set_cons_zero, List.set_cons_succ]
          refine takeInH 5 58 ?v28 rfl rfl (by kernel_rfl) (by kernel_rfl) (by kernel_rfl) (fun _ _ _ h => h) (by kernel_rfl) hS0 ?hy28 ?_
          case hy28 => (intro W hW; clear hW; go_simp; try rfl)
          simp only [Act.put, List.setIfInBounds_toArray, List.set_cons_zero, List.set_cons_succ]
          refine takeInH 6 59 ?v29 rfl rfl (by kernel_rfl) (by kernel_rfl) (by kernel_rfl) (fun _ _ _ h => h) (by kernel_rfl) hS0 ?hy29 ?_
          case hy29 => (intro W hW; have e0 := bcell hW d0; clear hW; go_simp; try rfl)
          simp only [Act.put, List.setIfInBounds_toArray, List.set_cons_zero, List.set_cons_succ]
          refine wpAnyH_ready (rs := [3]) (by kernel_rfl) (by simp) ?_
          refine AllReadyH.cons rfl (fun K hK => ?_) AllReadyH.nil
          go_simp
          refine (HNA.out _ _ _ (HN3.out.below hS0)).mono ?_
          rintro e wy ⟨rfl, hb⟩
          refine hK.out _ _ ?hs30 (fun hS1 => ?_)
          case hs30 => exact bel_next hS0 hb
          clear hK K hb
          try simp only [Act.put, List.setIfInBounds_toArray, List.set_cons_zero, List.set_cons_succ]
          refine wpAnyH_ready (rs := [7]) (by kernel_rfl) (by simp) ?_
          refine AllReadyH.cons rfl (fun K hK => ?_) AllReadyH.nil
          go_simp
          refine (HNL.out _ (HV.out.below (bel_next BB.out hS1))).mono ?_
          rintro e wy ⟨rfl, hb⟩
          refine hK.out _ _ ?hs31 (fun hS2 => ?_)
          case hs31 => exact bel_next hS1 hb
          clear hK K hb
          try simp only [Act.put, List.setIfInBounds_toArray, List.set_cons_zero, List.set_cons_succ]
          refine takeInH 8 61 ?v32 rfl rfl (by kernel_rfl) (by kernel_rfl) (by kernel_rfl) (fun _ _ _ h => h) (by kernel_rfl) hS2 ?hy32 ?_
          case hy32 => (intro W hW; clear hW; go_simp; try rfl)
          simp only [Act.put, List.setIfInBounds_toArray, List.set_cons_zero, List.set_cons_succ]
          refine takeInH 9 62 ?v33 rfl rfl (by kernel_rfl) (by kernel_rfl) (by kernel_rfl) (fun _ _ _ h => h) (by kernel_rfl) hS2 ?hy33 ?_
          case hy33 => (intro W hW; clear hW; go_simp; try rfl)
          simp only [Act.put, List.setIfInBounds_toArray, List.set_cons_zero, List.set_cons_succ]
          refine takeInH 10 63 ?v34 rfl rfl (by kernel_rfl) (by kernel_rfl) (by kernel_rfl) (fun _ _ _ h => h) (by kernel_rfl) hS2 ?hy34 ?_
          case hy34 => (intro W hW; clear hW; go_simp; try rfl)
          simp only [Act.put, List.setIfInBounds_toArray, List.set_cons_zero, List.set_cons_succ]
          refine takeInH 11 64 ?v35 rfl rfl (by kernel_rfl) (by kernel_rfl) (by kernel_rfl) (fun _ _ _ h => h) (by kernel_rfl) hS2 ?hy35 ?_
          case hy35 => (intro W hW; clear hW; go_simp; try rfl)
          simp only [Act.put, List.setIfInBounds_toArray, List.set_cons_zero, List.set_cons_succ]
          refine takeInH 12 65 ?v36 rfl rfl (by kernel_rfl) (by kernel_rfl) (by kernel_rfl) (fun _ _ _ h => h) (by kernel_rfl) hS2 ?hy36 ?_
          case hy36 => (intro W hW; clear hW; go_simp; try rfl)
          simp only [Act.put, List.setIfInBounds_toArray, List.set_cons_zero, List.set_cons_succ]
          refine takeInH 13 66 ?v37 rfl rfl (by kernel_rfl) (by kernel_rfl) (by kernel_rfl) (fun _ _ _ h => h) (by kernel_rfl) hS2 ?hy37 ?_
          case hy37 => (intro W hW; have e0 := bcell hW d0; clear hW; go_simp; try rfl)
          simp only [Act.put, List.setIfInBounds_toArray, List.set_cons_zero, List.set_cons_succ]
          refine takeInH 15 68 ?v38 rfl rfl (by kernel_rfl) (by kernel_rfl) (by kernel_rfl) (fun _ _ _ h => h) (by kernel_rfl) hS2 ?hy38 ?_
          case hy38 => (intro W hW; clear hW; go_simp; try rfl)
          simp only [Act.put, List.setIfInBounds_toArray, List.set_cons_zero, List.set_cons_succ]
          refine wpAnyH_ready (rs := [14]) (by kernel_rfl) (by simp) ?_
          refine AllReadyH.cons rfl (fun K hK => ?_) AllReadyH.nil
          go_simp
          refine (HNA.out _ _ _ (HN3.out.below hS2)).mono ?_
          rintro e wy ⟨rfl, hb⟩
          refine hK.out _ _ ?hs39 (fun hS3 => ?_)
          case hs39 => exact bel_next hS2 hb
          clear hK K hb
          try simp only [Act.put, List.setIfInBounds_toArray, List.set_cons_zero, List.set_cons_succ]
          refine takeInH 16 69 ?v40 rfl rfl (by kernel_rfl) (by kernel_rfl) (by kernel_rfl) (fun _ _ _ h => h) (by kernel_rfl) hS3 ?hy40 ?_
          case hy40 => (intro W hW; clear hW; go_simp; try rfl)
          simp only [Act.put, List.setIfInBounds_toArray, List.set_cons_zero, List.set_cons_succ]
          refine takeInH 17 70 ?v41 rfl rfl (by kernel_rfl) (by kernel_rfl) (by kernel_rfl) (fun _ _ _ h => h) (by kernel_rfl) hS3 ?hy41 ?_
          case hy41 => (intro W hW; clear hW; go_simp; try rfl)
          simp only [Act.put, List.setIfInBounds_toArray, List.set_cons_zero, List.set_cons_succ]
          refine takeInH 18 71 ?v42 rfl rfl (by kernel_rfl) (by kernel_rfl) (by kernel_rfl) (fun _ _ _ h => h) (by kernel_rfl) hS3 ?hy42 ?_
          case hy42 => (intro W hW; clear hW; go_simp; try rfl)
          simp only [Act.put, List.setIfInBounds_toArray, List.set_cons_zero, List.set_cons_succ]
          refine takeInH 19 72 ?v43 rfl rfl (by kernel_rfl) (by kernel_rfl) (by kernel_rfl) (fun _ _ _ h => h) (by kernel_rfl) hS3 ?hy43 ?_
          case hy43 => (intro W hW; clear hW; go_simp; try rfl)
          simp only [Act.put, List.setIfInBounds_toArray, List.set_cons_zero, List.set_cons_succ]
          refine wpAnyH_ready (rs := [20]) (by kernel_rfl) (by simp) ?_
          refine AllReadyH.cons rfl (fun K hK => ?_) AllReadyH.nil
          go_simp
          refine (awake11 _).mono ?_
          rintro e wy ⟨rfl, hb⟩
          refine hK.out _ _ ?hs44 (fun hS4 => ?_)
          case hs44 => exact bel_next hS3 hb
          clear hK K hb
          try simp only [Act.put, List.setIfInBounds_toArray, List.set_cons_zero, List.set_cons_succ]
          refine takeInH 21 74 ?v45 rfl rfl (by kernel_rfl) (by kernel_rfl) (by kernel_rfl) (fun _ _ _ h => h) (by kernel_rfl) hS4 ?hy45 ?_
          case hy45 => (intro W hW; clear hW; go_simp; try rfl)
          simp only [Act.put, List.setIfInBounds_toArray, List.set_cons_zero, List.set_cons_succ]
          refine takeInH 22 6 ?v46 rfl rfl (by kernel_rfl) (by kernel_rfl) (by kernel_rfl) (fun _ _ _ h => h) (by kernel_rfl) hS4 ?hy46 ?_
          case hy46 => (intro W hW; clear hW; go_simp; try rfl)
          simp only [Act.put, List.setIfInBounds_toArray, List.set_cons_zero, List.set_cons_succ]
          refine wpAnyH_done (by kernel_rfl) ?_ _
          go_wp2
          go_ret
          exact ⟨rfl, bel_next BB.out hS4⟩
    · go_wp2_with (go_at_call 8; refine (awake11 _).mono ?_; rintro e wz ⟨rfl, hb⟩)
      go_ret
      exact ⟨rfl, bel_next BB.out hb⟩

/-! ### The row's step -/
set_option maxRecDepth 100000 in
theorem lifted (os : Os) (started : os.Started) (H : Type) (enc : TypeId × Value → H) :
    ReturnsInHanded {} Try.checked os 6 .any (Rows.escrowMovesSpec.pre6 enc Try.prog Try.f6 Rows.escrowMovesRow.domain false) (Rows.escrowMovesSpec.post enc Try.prog Try.f6 false true false false) := by
  refine returnsInHanded_of_change_sized (C := Try.checked) own started (by kernel_rfl) Try.func6
    (ChangeSpec.witness6 (enc := enc) (C := Try.checked) false ⟨#[], #[.slice none 0 0, .agg #[.string ⟨#[]⟩, .int .i64 0, .int .i64 0, .int .i64 0], .int .u8 0], []⟩ 8 (by kernel_rfl) (by kernel_rfl) (by kernel_rfl) (by kernel_rfl)) ?_
  intro W base args ds gs before hval0 hW hcnd hz0 _
  have hval : ∀ (j : Nat) t v, Try.f6.params[j]? = some t → args[j]? = some v → Value.okWide Try.prog W .any base t v := hval0
  have hz : (DataW.weightsEach Try.prog (Try.f6.params.toList ++ Rows.escrowMovesSpec.plain.varTypes Try.prog) (ds ++ gs)).all (· ≤ reachBytes) = true := hz0
  have hW' := hW
  obtain ⟨p, q, hA0, hV, rfl, hfz, hnd⟩ := hW
  have hA : DataW.TrodAll enc Try.prog W 0 (fun _ => true) true Try.f6.params.toList args.toList ds p := hA0
  rw [Try.params6] at hA hval hz
  obtain ⟨v0, vs0, d0, ds0, p0, q0, hargs, rfl, rfl, h0, r0⟩ := trodAll_cons hA
  obtain ⟨v1, vs1, d1, ds1, p1, q1, rfl, rfl, rfl, h1, r1⟩ := trodAll_cons r0
  obtain ⟨v2, vs2, d2, ds2, p2, q2, rfl, rfl, rfl, h2, r2⟩ := trodAll_cons r1
  obtain ⟨rfl, rfl, rfl⟩ := trodAll_nil r2
  obtain rfl : args = #[v0, v1, v2] := by cases args; simp_all
  obtain ⟨rfl, rfl⟩ := trodVars_none hV
  have k0 := h0
  have lt0 : ∀ x ∈ p0, x.block < W.heap.size := by obtain ⟨m, hm⟩ := k0; exact DataW.trod_lt m _ _ _ hm
  have w0 : InAc W v0 := in_accts (hval 0 22 v0 rfl rfl) h0 (fun n hn => by have := List.all_eq_true.1 hz n (DataW.weights_mem_each (j := 0) (t := 22) rfl rfl n hn); simpa using this)
  have k1 := h1
  have lt1 : ∀ x ∈ p1, x.block < W.heap.size := by obtain ⟨m, hm⟩ := k1; exact DataW.trod_lt m _ _ _ hm
  have w1 : InDd11 W v1 := in_deed11 (hval 1 24 v1 rfl rfl) h1 (fun n hn => by have := List.all_eq_true.1 hz n (DataW.weights_mem_each (j := 1) (t := 24) rfl rfl n hn); simpa using this)
  obtain ⟨a2, rfl, rfl, rfl, w2⟩ := open_int Try.underlying5 (hval 2 5 v2 rfl rfl) h2
  clear hA0 hval0 hz0
  refine (walk v0 v1 a2 W w0 w1 w2).mono fun e W' ⟨he, bel⟩ => ?_
  subst he
  exact ⟨_, rfl, _, _, _, [], _, [], hW', trodAll_mk1 (shut_bool Try.underlying4 _), (trodAll_cons_mk (Below.trod laidOut (by kernel_rfl) (of_decide_eq_true (by kernel_rfl)) k0 bel lt0) (trodAll_cons_mk (Below.trod laidOut (by kernel_rfl) (of_decide_eq_true (by kernel_rfl)) k1 bel lt1) (trodAll_cons_mk (shut_int Try.underlying5 w2) trodAll_mk0))), rfl, bel.frame _, fun h => by cases h⟩

theorem over : Rows.escrowMovesRow.holds Try.pinned (OpenSpec.ofChange Rows.escrowMovesSpec) :=
  OpenClaim.holds_of_wide 6 Try.f6 rfl rfl rfl rfl rfl rfl rfl ⟨rfl, rfl, rfl, rfl, rfl⟩ rfl rfl rfl rfl rfl (by kernel_rfl) Try.func6 (by kernel_rfl)
    (of_decide_eq_true (by kernel_rfl)) (by unfold Func.isWrapper; first | (rw [if_pos (by decide +kernel)]; kernel_rfl) | (rw [if_neg (by decide +kernel)]; exact ⟨rfl, rfl⟩))
    (fun os started H enc _ => lifted os started H enc)
end Go.Proofs.Ytbihgcmnllajpaa.escrowMoves
namespace Go.Proofs.Ytbihgcmnllajpaa
theorem escrowMoves_holds : Rows.EscrowMovesSaid := escrowMoves.over
end Go.Proofs.Ytbihgcmnllajpaa
