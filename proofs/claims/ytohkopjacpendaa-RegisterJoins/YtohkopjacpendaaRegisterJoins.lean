/- Any two registers together, and which of any two notes is later, are as the document says. -/
import Derived.Test.YtohkopjacpendaaRows
import Derived.WalkKit
import Derived.ProofKit
import Derived.OpenShut
import Derived.ShutString
import Derived.ChangeOld
import Derived.Below
import Derived.SizedLaws
import Derived.Test.YtohkopjacpendaaGNq
import Derived.Test.YtohkopjacpendaaGNs
namespace Go.Proofs.Ytohkopjacpendaa.registerJoins
open Go.ChangeShapes Go.WideShapes Go.ChangeAt Go.RowKit
set_option linter.unusedVariables false

theorem own : ownKnob Try.prog.godebug = none := by kernel_rfl
theorem laidOut : laidOutB Try.prog = true := by kernel_rfl

set_option maxHeartbeats 16000000 in
theorem walk (v0 : Value) (v1 : Value) (v2 : Value) (w : World) (w0 : InNn w v0) (w1 : InNn w v1) (w2 : InN2 w v2) :
    Calls Try.prog 4 #[v0, v1, v2] w fun e w' => e = .returned (.bool true) ∧ Below w.heap.size w w' := by
  obtain ⟨a, n, cpa, s, rfl, hA, hCA⟩ := w0
  obtain ⟨b, m, cpb, t, rfl, hB, hCB⟩ := w1
  obtain ⟨pk, pt, pr, pw, qk, qt, qr, qw, rfl⟩ := w2
  have HVA := hide hA
  have HVB := hide hB
  have HCA := hide hCA
  have HCB := hide hCB
  have HLS := hide hA.1
  have HLT0 := hide hB.1
  clear hA hB hCA hCB
  have HB0 := hide (bel1 w (.cells #[.string pk, .int .i64 pt, .int .i64 pr, .string pw, .string qk, .int .i64 qt, .int .i64 qr, .string qw] 38))
  have o0 := cell_new w #[.string pk, .int .i64 pt, .int .i64 pr, .string pw, .string qk, .int .i64 qt, .int .i64 qr, .string qw] 38 _ rfl 0 _ rfl
  have o1 := cell_new w #[.string pk, .int .i64 pt, .int .i64 pr, .string pw, .string qk, .int .i64 qt, .int .i64 qr, .string qw] 38 _ rfl 1 _ rfl
  have o2 := cell_new w #[.string pk, .int .i64 pt, .int .i64 pr, .string pw, .string qk, .int .i64 qt, .int .i64 qr, .string qw] 38 _ rfl 2 _ rfl
  have o3 := cell_new w #[.string pk, .int .i64 pt, .int .i64 pr, .string pw, .string qk, .int .i64 qt, .int .i64 qr, .string qw] 38 _ rfl 3 _ rfl
  have o4 := cell_new w #[.string pk, .int .i64 pt, .int .i64 pr, .string pw, .string qk, .int .i64 qt, .int .i64 qr, .string qw] 38 _ rfl 4 _ rfl
  have o5 := cell_new w #[.string pk, .int .i64 pt, .int .i64 pr, .string pw, .string qk, .int .i64 qt, .int .i64 qr, .string qw] 38 _ rfl 5 _ rfl
  have o6 := cell_new w #[.string pk, .int .i64 pt, .int .i64 pr, .string pw, .string qk, .int .i64 qt, .int .i64 qr, .string qw] 38 _ rfl 6 _ rfl
  have o7 := cell_new w #[.string pk, .int .i64 pt, .int .i64 pr, .string pw, .string qk, .int .i64 qt, .int .i64 qr, .string qw] 38 _ rfl 7 _ rfl
  go_enter Try.func4, Try.ntmps4
  go_upto_region 1 with fail
  generalize w.alloc (.cells #[.string pk, .int .i64 pt, .int .i64 pr, .string pw, .string qk, .int .i64 qt, .int .i64 qr, .string qw] 38) = u at *
  go_cut [7, 8] from 15 to 18 (fun v7 v8 wx => ∃ g7 g8, v7 = .pointer (some ⟨g7, 0, none⟩) ∧ v8 = .pointer (some ⟨g8, 0, none⟩) ∧ Hid (BX wx g7 #[.string pk, .int .i64 pt, .int .i64 pr, .string pw] 24) ∧ Hid (BX wx g8 #[.string qk, .int .i64 qt, .int .i64 qr, .string qw] 24) ∧ Hid (Below w.heap.size w wx))
  case first =>
    refine wp_region_held_drew (S := fun W => Below u.heap.size u W) (by kernel_rfl) ((Below.refl _ u).drew) (fun hS0 => ?_)
    refine takeInH 0 15 ?v193 rfl rfl (by kernel_rfl) (by kernel_rfl) (by kernel_rfl) (fun _ _ _ h => h) (by kernel_rfl) hS0 ?hy193 ?_
    case hy193 => (intro W hW; clear hW; go_simp; try rfl)
    simp only [Act.put, List.setIfInBounds_toArray, List.set_cons_zero, List.set_cons_succ]
    refine takeInH 1 16 ?v194 rfl rfl (by kernel_rfl) (by kernel_rfl) (by kernel_rfl) (fun _ _ _ h => h) (by kernel_rfl) hS0 ?hy194 ?_
    case hy194 => (intro W hW; have e0 := bcell hW o0; have e1 := bcell hW o1; have e2 := bcell hW o2; have e3 := bcell hW o3; have e4 := bcell hW o4; have e5 := bcell hW o5; have e6 := bcell hW o6; have e7 := bcell hW o7; clear hW; go_simp; try rfl)
    simp only [Act.put, List.setIfInBounds_toArray, List.set_cons_zero, List.set_cons_succ]
    refine takeInH 2 17 ?v195 rfl rfl (by kernel_rfl) (by kernel_rfl) (by kernel_rfl) (fun _ _ _ h => h) (by kernel_rfl) hS0 ?hy195 ?_
    case hy195 => (intro W hW; clear hW; go_simp; try rfl)
    simp only [Act.put, List.setIfInBounds_toArray, List.set_cons_zero, List.set_cons_succ]
    refine takeInH 3 18 ?v196 rfl rfl (by kernel_rfl) (by kernel_rfl) (by kernel_rfl) (fun _ _ _ h => h) (by kernel_rfl) hS0 ?hy196 ?_
    case hy196 => (intro W hW; have e0 := bcell hW o0; have e1 := bcell hW o1; have e2 := bcell hW o2; have e3 := bcell hW o3; have e4 := bcell hW o4; have e5 := bcell hW o5; have e6 := bcell hW o6; have e7 := bcell hW o7; clear hW; go_simp; try rfl)
    simp only [Act.put, List.setIfInBounds_toArray, List.set_cons_zero, List.set_cons_succ]
    refine wpAnyH_ready (rs := [4, 5]) (by kernel_rfl) (by simp) ?_
    refine AllReadyH.cons rfl (fun K hK => ?_) (AllReadyH.cons rfl (fun K hK => ?_) AllReadyH.nil)
    · go_simp
      have BW : Below u.heap.size u (u.alloc (.cells #[.string ⟨#[]⟩, .int .i64 0, .int .i64 0, .string ⟨#[]⟩] 24)).drew := (bel1 u (.cells #[.string ⟨#[]⟩, .int .i64 0, .int .i64 0, .string ⟨#[]⟩] 24)).drew
      have X7 : Hid (BX (u.alloc (.cells #[.string ⟨#[]⟩, .int .i64 0, .int .i64 0, .string ⟨#[]⟩] 24)).drew u.heap.size #[.string ⟨#[]⟩, .int .i64 0, .int .i64 0, .string ⟨#[]⟩] 24) := (BX.new u _ rfl #[.string ⟨#[]⟩, .int .i64 0, .int .i64 0, .string ⟨#[]⟩] 24).drew
      generalize (u.alloc (.cells #[.string ⟨#[]⟩, .int .i64 0, .int .i64 0, .string ⟨#[]⟩] 24)).drew = wk at BW X7 ⊢
      refine hK.out _ _ ?hs197 (fun hS1 => ?_)
      case hs197 => exact BW
      clear hK K
      try simp only [Act.put, List.setIfInBounds_toArray, List.set_cons_zero, List.set_cons_succ]
      refine wpAnyH_ready (rs := [5]) (by kernel_rfl) (by simp) ?_
      refine AllReadyH.cons rfl (fun K hK => ?_) AllReadyH.nil
      go_simp
      have BW : Below u.heap.size u (wk.alloc (.cells #[.string ⟨#[]⟩, .int .i64 0, .int .i64 0, .string ⟨#[]⟩] 24)) := bel_next hS1 (bel1 wk (.cells #[.string ⟨#[]⟩, .int .i64 0, .int .i64 0, .string ⟨#[]⟩] 24))
      have X8 : Hid (BX (wk.alloc (.cells #[.string ⟨#[]⟩, .int .i64 0, .int .i64 0, .string ⟨#[]⟩] 24)) wk.heap.size #[.string ⟨#[]⟩, .int .i64 0, .int .i64 0, .string ⟨#[]⟩] 24) := BX.new wk _ rfl #[.string ⟨#[]⟩, .int .i64 0, .int .i64 0, .string ⟨#[]⟩] 24
      have hne : u.heap.size ≠ wk.heap.size := Nat.ne_of_lt X7.out.size
      have hge : u.heap.size ≤ wk.heap.size := hS1.size
      replace X7 := hide (X7.out.alloc (.cells #[.string ⟨#[]⟩, .int .i64 0, .int .i64 0, .string ⟨#[]⟩] 24))
      generalize wk.heap.size = gk at *
      generalize wk.alloc (.cells #[.string ⟨#[]⟩, .int .i64 0, .int .i64 0, .string ⟨#[]⟩] 24) = wm at BW X7 X8 ⊢
      refine hK.out _ _ ?hs198 (fun hS2 => ?_)
      case hs198 => exact BW
      clear hK K
      try simp only [Act.put, List.setIfInBounds_toArray, List.set_cons_zero, List.set_cons_succ]
      refine wpAnyH_ready (rs := [6]) (by kernel_rfl) (by simp) ?_
      refine AllReadyH.cons rfl (fun K hK => ?_) AllReadyH.nil
      have e0 := X7.out.cell 0 _ rfl
      have e1 := X7.out.cell 1 _ rfl
      have e2 := X7.out.cell 2 _ rfl
      have e3 := X7.out.cell 3 _ rfl
      have z0 := X7.out.free 0
      have z1 := X7.out.free 1
      have z2 := X7.out.free 2
      have z3 := X7.out.free 3
      go_simp
      refine hK.out _ _ ?hs199 (fun hS3 => ?_)
      case hs199 => exact bel_put4N hS2 (by first | exact Nat.le_refl _ | exact hge) _ _ _ _
      clear hK K
      try simp only [Act.put, List.setIfInBounds_toArray, List.set_cons_zero, List.set_cons_succ]
      refine wpAnyH_ready (rs := [7]) (by kernel_rfl) (by simp) ?_
      refine AllReadyH.cons rfl (fun K hK => ?_) AllReadyH.nil
      clear e0 e1 e2 e3 z0 z1 z2 z3
      have Y7 := hide (X7.out.put4 (.string pk) (.int .i64 pt) (.int .i64 pr) (.string pw))
      have Y8 := hide ((((X8.out.other (by first | exact hne | exact hne.symm) 0 (.string pk)).other (by first | exact hne | exact hne.symm) 1 (.int .i64 pt)).other (by first | exact hne | exact hne.symm) 2 (.int .i64 pr)).other (by first | exact hne | exact hne.symm) 3 (.string pw))
      clear X7 X8
      have X7 := Y7
      have X8 := Y8
      clear Y7 Y8
      have e0 := X8.out.cell 0 _ rfl
      have e1 := X8.out.cell 1 _ rfl
      have e2 := X8.out.cell 2 _ rfl
      have e3 := X8.out.cell 3 _ rfl
      have z0 := X8.out.free 0
      have z1 := X8.out.free 1
      have z2 := X8.out.free 2
      have z3 := X8.out.free 3
      go_simp
      refine hK.out _ _ ?hs200 (fun hS4 => ?_)
      case hs200 => exact bel_put4N hS3 (by first | exact Nat.le_refl _ | exact hge) _ _ _ _
      clear hK K
      try simp only [Act.put, List.setIfInBounds_toArray, List.set_cons_zero, List.set_cons_succ]
      refine wpAnyH_done (by kernel_rfl) ?_ _
      have Y8 := hide (X8.out.put4 (.string qk) (.int .i64 qt) (.int .i64 qr) (.string qw))
      have Y7 := hide (BX.other (BX.other (BX.other (BX.other X7.out (by first | exact hne | exact hne.symm) 0 (.string qk)) (by first | exact hne | exact hne.symm) 1 (.int .i64 qt)) (by first | exact hne | exact hne.symm) 2 (.int .i64 qr)) (by first | exact hne | exact hne.symm) 3 (.string qw))
      clear e0 e1 e2 e3 z0 z1 z2 z3
      go_wp2
      go_meet
      case rel => exact ⟨_, _, rfl, rfl, Y7, Y8, (show Hid _ from bel_next HB0.out hS4)⟩
    · go_simp
      have BW : Below u.heap.size u (u.alloc (.cells #[.string ⟨#[]⟩, .int .i64 0, .int .i64 0, .string ⟨#[]⟩] 24)).drew := (bel1 u (.cells #[.string ⟨#[]⟩, .int .i64 0, .int .i64 0, .string ⟨#[]⟩] 24)).drew
      have X8 : Hid (BX (u.alloc (.cells #[.string ⟨#[]⟩, .int .i64 0, .int .i64 0, .string ⟨#[]⟩] 24)).drew u.heap.size #[.string ⟨#[]⟩, .int .i64 0, .int .i64 0, .string ⟨#[]⟩] 24) := (BX.new u _ rfl #[.string ⟨#[]⟩, .int .i64 0, .int .i64 0, .string ⟨#[]⟩] 24).drew
      generalize (u.alloc (.cells #[.string ⟨#[]⟩, .int .i64 0, .int .i64 0, .string ⟨#[]⟩] 24)).drew = wk at BW X8 ⊢
      refine hK.out _ _ ?hs201 (fun hS1 => ?_)
      case hs201 => exact BW
      clear hK K
      try simp only [Act.put, List.setIfInBounds_toArray, List.set_cons_zero, List.set_cons_succ]
      refine wpAnyH_ready (rs := [4]) (by kernel_rfl) (by simp) ?_
      refine AllReadyH.cons rfl (fun K hK => ?_) AllReadyH.nil
      go_simp
      have BW : Below u.heap.size u (wk.alloc (.cells #[.string ⟨#[]⟩, .int .i64 0, .int .i64 0, .string ⟨#[]⟩] 24)) := bel_next hS1 (bel1 wk (.cells #[.string ⟨#[]⟩, .int .i64 0, .int .i64 0, .string ⟨#[]⟩] 24))
      have X7 : Hid (BX (wk.alloc (.cells #[.string ⟨#[]⟩, .int .i64 0, .int .i64 0, .string ⟨#[]⟩] 24)) wk.heap.size #[.string ⟨#[]⟩, .int .i64 0, .int .i64 0, .string ⟨#[]⟩] 24) := BX.new wk _ rfl #[.string ⟨#[]⟩, .int .i64 0, .int .i64 0, .string ⟨#[]⟩] 24
      have hne : u.heap.size ≠ wk.heap.size := Nat.ne_of_lt X8.out.size
      have hge : u.heap.size ≤ wk.heap.size := hS1.size
      replace X8 := hide (X8.out.alloc (.cells #[.string ⟨#[]⟩, .int .i64 0, .int .i64 0, .string ⟨#[]⟩] 24))
      generalize wk.heap.size = gk at *
      generalize wk.alloc (.cells #[.string ⟨#[]⟩, .int .i64 0, .int .i64 0, .string ⟨#[]⟩] 24) = wm at BW X7 X8 ⊢
      refine hK.out _ _ ?hs202 (fun hS2 => ?_)
      case hs202 => exact BW
      clear hK K
      try simp only [Act.put, List.setIfInBounds_toArray, List.set_cons_zero, List.set_cons_succ]
      refine wpAnyH_ready (rs := [6]) (by kernel_rfl) (by simp) ?_
      refine AllReadyH.cons rfl (fun K hK => ?_) AllReadyH.nil
      have e0 := X7.out.cell 0 _ rfl
      have e1 := X7.out.cell 1 _ rfl
      have e2 := X7.out.cell 2 _ rfl
      have e3 := X7.out.cell 3 _ rfl
      have z0 := X7.out.free 0
      have z1 := X7.out.free 1
      have z2 := X7.out.free 2
      have z3 := X7.out.free 3
      go_simp
      refine hK.out _ _ ?hs203 (fun hS3 => ?_)
      case hs203 => exact bel_put4N hS2 (by first | exact Nat.le_refl _ | exact hge) _ _ _ _
      clear hK K
      try simp only [Act.put, List.setIfInBounds_toArray, List.set_cons_zero, List.set_cons_succ]
      refine wpAnyH_ready (rs := [7]) (by kernel_rfl) (by simp) ?_
      refine AllReadyH.cons rfl (fun K hK => ?_) AllReadyH.nil
      clear e0 e1 e2 e3 z0 z1 z2 z3
      have Y7 := hide (X7.out.put4 (.string pk) (.int .i64 pt) (.int .i64 pr) (.string pw))
      have Y8 := hide ((((X8.out.other (by first | exact hne | exact hne.symm) 0 (.string pk)).other (by first | exact hne | exact hne.symm) 1 (.int .i64 pt)).other (by first | exact hne | exact hne.symm) 2 (.int .i64 pr)).other (by first | exact hne | exact hne.symm) 3 (.string pw))
      clear X7 X8
      have X7 := Y7
      have X8 := Y8
      clear Y7 Y8
      have e0 := X8.out.cell 0 _ rfl
      have e1 := X8.out.cell 1 _ rfl
      have e2 := X8.out.cell 2 _ rfl
      have e3 := X8.out.cell 3 _ rfl
      have z0 := X8.out.free 0
      have z1 := X8.out.free 1
      have z2 := X8.out.free 2
      have z3 := X8.out.free 3
      go_simp
      refine hK.out _ _ ?hs204 (fun hS4 => ?_)
      case hs204 => exact bel_put4N hS3 (by first | exact Nat.le_refl _ | exact hge) _ _ _ _
      clear hK K
      try simp only [Act.put, List.setIfInBounds_toArray, List.set_cons_zero, List.set_cons_succ]
      refine wpAnyH_done (by kernel_rfl) ?_ _
      have Y8 := hide (X8.out.put4 (.string qk) (.int .i64 qt) (.int .i64 qr) (.string qw))
      have Y7 := hide (BX.other (BX.other (BX.other (BX.other X7.out (by first | exact hne | exact hne.symm) 0 (.string qk)) (by first | exact hne | exact hne.symm) 1 (.int .i64 qt)) (by first | exact hne | exact hne.symm) 2 (.int .i64 qr)) (by first | exact hne | exact hne.symm) 3 (.string qw))
      clear e0 e1 e2 e3 z0 z1 z2 z3
      go_wp2
      go_meet
      case rel => exact ⟨_, _, rfl, rfl, Y7, Y8, (show Hid _ from bel_next HB0.out hS4)⟩
  case rest =>
    clear o0 o1 o2 o3 o4 o5 o6 o7 HB0
    obtain ⟨g7, g8, rfl, rfl, HX7, HX8, BB⟩ := hcut
    generalize hww : wc = wy at *
    clear hww
    go_wp2_with (go_at_call 7; refine (light12 a n cpa s _ (HVA.out.below BB.out)).mono ?_; rintro e wl ⟨bl, rfl, hl, rfl⟩; refine Stop.at ?_)
    unfold Stop
    cases bl
    · clear hl
      go_wp2_with (go_at_call 8; refine (awake12 _).mono ?_; rintro e wz ⟨rfl, hb⟩)
      go_ret
      exact ⟨rfl, bel_next BB.out hb⟩
    · obtain ⟨hn60, hfew⟩ := hl rfl
      clear hl hfew
      go_wp2_with (go_at_call 7; refine (light12 b m cpb t _ (HVB.out.below BB.out)).mono ?_; rintro e wl ⟨bl, rfl, hl, rfl⟩; refine Stop.at ?_)
      unfold Stop
      cases bl
      · clear hl
        go_wp2_with (go_at_call 8; refine (awake12 _).mono ?_; rintro e wz ⟨rfl, hb⟩)
        go_ret
        exact ⟨rfl, bel_next BB.out hb⟩
      · obtain ⟨hm60, hfew⟩ := hl rfl
        clear hl hfew
        have f0 := HX7.out.cell 0 _ rfl
        have h0 := HX8.out.cell 0 _ rfl
        have f1 := HX7.out.cell 1 _ rfl
        have h1 := HX8.out.cell 1 _ rfl
        have f2 := HX7.out.cell 2 _ rfl
        have h2 := HX8.out.cell 2 _ rfl
        have f3 := HX7.out.cell 3 _ rfl
        have h3 := HX8.out.cell 3 _ rfl
        have BQ := bel1 wl (.cells #[.string pk, .int .i64 pt, .int .i64 pr, .string pw, .string qk, .int .i64 qt, .int .i64 qr, .string qw] 24)
        have DB : Hid (NN (wl.alloc (.cells #[.string pk, .int .i64 pt, .int .i64 pr, .string pw, .string qk, .int .i64 qt, .int .i64 qr, .string qw] 24)) (some ⟨wl.heap.size, 0, none⟩) 2 [(pk, pt, pr, pw), (qk, qt, qr, qw)]) := RS.new encN_len wl _ rfl [(pk, pt, pr, pw), (qk, qt, qr, qw)] _ (by simp [encN]) _ _ 2 rfl (by decide)
        go_wp2_with (go_at_call 7; refine (light12 (some ⟨wl.heap.size, 0, none⟩) 2 2 [(pk, pt, pr, pw), (qk, qt, qr, qw)] _ DB.out).mono ?_; rintro e wl ⟨bl, rfl, hl, rfl⟩; refine Stop.at ?_)
        unfold Stop
        cases bl
        · clear hl
          replace BB := hide (bel_next BB.out BQ)
          (try replace HX7 := hide (HX7.out.below BQ))
          (try replace HX8 := hide (HX8.out.below BQ))
          (try replace HN2 := hide (HN2.out.below BQ))
          (try replace HN3 := hide (HN3.out.below BQ))
          (try replace HNW := hide (HNW.out.below BQ))
          go_wp2_with (go_at_call 8; refine (awake12 _).mono ?_; rintro e wz ⟨rfl, hb⟩)
          go_ret
          exact ⟨rfl, bel_next BB.out hb⟩
        · obtain ⟨_, hfew⟩ := hl rfl
          clear hl hfew
          clear DB f0 f1 f2 f3 h0 h1 h2 h3
          replace BB := hide (bel_next BB.out BQ)
          (try replace HX7 := hide (HX7.out.below BQ))
          (try replace HX8 := hide (HX8.out.below BQ))
          (try replace HN2 := hide (HN2.out.below BQ))
          (try replace HN3 := hide (HN3.out.below BQ))
          (try replace HNW := hide (HNW.out.below BQ))
          clear BQ
          generalize wl.alloc (.cells #[.string pk, .int .i64 pt, .int .i64 pr, .string pw, .string qk, .int .i64 qt, .int .i64 qr, .string qw] 24) = wq at *
          rcases hms : mayR12 s with _ | _
          · have HMS := hide hms
            have HNO : Hid ((mayR12 s && mayR12 t) = false) := by unfold Hid; rw [hms]; rfl
            clear hms
            go_upto_region 5 with (go_at_call 17; refine (Join12_bad a n cpa s b m cpb t _ (HVA.out.below BB.out) (HVB.out.below BB.out) HNO.out).mono ?_; rintro e wy ⟨rfl, hb⟩; replace BB := hide (bel_next BB.out hb); (try replace HX7 := hide (HX7.out.below hb)); (try replace HX8 := hide (HX8.out.below hb)); (try replace HN2 := hide (HN2.out.below hb)); (try replace HN3 := hide (HN3.out.below hb)); (try replace HNW := hide (HNW.out.below hb)); clear hb)
            have f0 := HX7.out.cell 0 _ rfl
            have h0 := HX8.out.cell 0 _ rfl
            have f1 := HX7.out.cell 1 _ rfl
            have h1 := HX8.out.cell 1 _ rfl
            have f2 := HX7.out.cell 2 _ rfl
            have h2 := HX8.out.cell 2 _ rfl
            have f3 := HX7.out.cell 3 _ rfl
            have h3 := HX8.out.cell 3 _ rfl
            go_cut [56] from 41 to 56 (fun v wx => v = .bool false ∧ Hid (Below w.heap.size w wx))
            case first =>
              rcases hlt : laterN (pk, pt, pr, pw) (qk, qt, qr, qw) with _ | _
              · have HLT := hide hlt
                clear hlt
                rcases hst : decide (s = t) with _ | _
                · have HQT := hide hst
                  clear hst
                  refine wp_region_held_drew (S := fun W => Below wy.heap.size wy W) (by kernel_rfl) ((Below.refl _ wy).drew) (fun hS0 => ?_)
                  refine takeInH 0 41 ?v1 rfl rfl (by kernel_rfl) (by kernel_rfl) (by kernel_rfl) (fun _ _ _ h => h) (by kernel_rfl) hS0 ?hy1 ?_
                  case hy1 => (intro W hW; have e0 := bcell hW f0; have e1 := bcell hW f1; have e2 := bcell hW f2; have e3 := bcell hW f3; have e4 := bcell hW h0; have e5 := bcell hW h1; have e6 := bcell hW h2; have e7 := bcell hW h3; clear hW; go_simp; try rfl)
                  simp only [Act.put, List.setIfInBounds_toArray, List.set_cons_zero, List.set_cons_succ]
                  refine takeInH 1 42 ?v2 rfl rfl (by kernel_rfl) (by kernel_rfl) (by kernel_rfl) (fun _ _ _ h => h) (by kernel_rfl) hS0 ?hy2 ?_
                  case hy2 => (intro W hW; have e0 := bcell hW f0; have e1 := bcell hW f1; have e2 := bcell hW f2; have e3 := bcell hW f3; have e4 := bcell hW h0; have e5 := bcell hW h1; have e6 := bcell hW h2; have e7 := bcell hW h3; clear hW; go_simp; try rfl)
                  simp only [Act.put, List.setIfInBounds_toArray, List.set_cons_zero, List.set_cons_succ]
                  refine takeInH 3 44 ?v3 rfl rfl (by kernel_rfl) (by kernel_rfl) (by kernel_rfl) (fun _ _ _ h => h) (by kernel_rfl) hS0 ?hy3 ?_
                  case hy3 => (intro W hW; have e0 := bcell hW f0; have e1 := bcell hW f1; have e2 := bcell hW f2; have e3 := bcell hW f3; have e4 := bcell hW h0; have e5 := bcell hW h1; have e6 := bcell hW h2; have e7 := bcell hW h3; clear hW; go_simp; try rfl)
                  simp only [Act.put, List.setIfInBounds_toArray, List.set_cons_zero, List.set_cons_succ]
                  refine takeInH 4 45 ?v4 rfl rfl (by kernel_rfl) (by kernel_rfl) (by kernel_rfl) (fun _ _ _ h => h) (by kernel_rfl) hS0 ?hy4 ?_
                  case hy4 => (intro W hW; have e0 := bcell hW f0; have e1 := bcell hW f1; have e2 := bcell hW f2; have e3 := bcell hW f3; have e4 := bcell hW h0; have e5 := bcell hW h1; have e6 := bcell hW h2; have e7 := bcell hW h3; clear hW; go_simp; try rfl)
                  simp only [Act.put, List.setIfInBounds_toArray, List.set_cons_zero, List.set_cons_succ]
                  refine wpAnyH_ready (rs := [2]) (by kernel_rfl) (by simp) ?_
                  refine AllReadyH.cons rfl (fun K hK => ?_) AllReadyH.nil
                  go_simp
                  refine (Later12_any pk qk pt qt pr qr pw qw _).mono ?_
                  rintro e wa ⟨rfl, hb⟩
                  rw [show laterN (pk, pt, pr, pw) (qk, qt, qr, qw) = false from HLT.out]
                  refine hK.out _ _ ?hs5 (fun hS1 => ?_)
                  case hs5 => exact bel_next hS0 hb
                  clear hK K hb
                  try simp only [Act.put, List.setIfInBounds_toArray, List.set_cons_zero, List.set_cons_succ]
                  refine wpAnyH_ready (rs := [5]) (by kernel_rfl) (by simp) ?_
                  refine AllReadyH.cons rfl (fun K hK => ?_) AllReadyH.nil
                  go_simp
                  refine (Later12_ref pk qk pt qt pr qr pw qw _).mono ?_
                  rintro e wd ⟨rfl, hb⟩
                  rw [show laterN (pk, pt, pr, pw) (qk, qt, qr, qw) = false from HLT.out]
                  refine hK.out _ _ ?hs6 (fun hS2 => ?_)
                  case hs6 => exact bel_next hS1 hb
                  clear hK K hb
                  try simp only [Act.put, List.setIfInBounds_toArray, List.set_cons_zero, List.set_cons_succ]
                  refine takeInH 6 47 ?v7 rfl rfl (by kernel_rfl) (by kernel_rfl) (by kernel_rfl) (fun _ _ _ h => h) (by kernel_rfl) hS2 ?hy7 ?_
                  case hy7 => (intro W hW; clear hW; go_simp; try rfl)
                  simp only [Act.put, List.setIfInBounds_toArray, List.set_cons_zero, List.set_cons_succ]
                  refine takeInH 7 48 ?v8 rfl rfl (by kernel_rfl) (by kernel_rfl) (by kernel_rfl) (fun _ _ _ h => h) (by kernel_rfl) hS2 ?hy8 ?_
                  case hy8 => (intro W hW; clear hW; go_simp; try rfl)
                  simp only [Act.put, List.setIfInBounds_toArray, List.set_cons_zero, List.set_cons_succ]
                  refine takeInH 8 49 ?v9 rfl rfl (by kernel_rfl) (by kernel_rfl) (by kernel_rfl) (fun _ _ _ h => h) (by kernel_rfl) hS2 ?hy9 ?_
                  case hy9 => (intro W hW; clear hW; go_simp; try rfl)
                  simp only [Act.put, List.setIfInBounds_toArray, List.set_cons_zero, List.set_cons_succ]
                  refine takeInH 9 50 ?v10 rfl rfl (by kernel_rfl) (by kernel_rfl) (by kernel_rfl) (fun _ _ _ h => h) (by kernel_rfl) hS2 ?hy10 ?_
                  case hy10 => (intro W hW; clear hW; go_simp; try rfl)
                  simp only [Act.put, List.setIfInBounds_toArray, List.set_cons_zero, List.set_cons_succ]
                  refine takeInH 11 52 ?v11 rfl rfl (by kernel_rfl) (by kernel_rfl) (by kernel_rfl) (fun _ _ _ h => h) (by kernel_rfl) hS2 ?hy11 ?_
                  case hy11 => (intro W hW; clear hW; go_simp; try rfl)
                  simp only [Act.put, List.setIfInBounds_toArray, List.set_cons_zero, List.set_cons_succ]
                  refine takeInH 12 53 ?v12 rfl rfl (by kernel_rfl) (by kernel_rfl) (by kernel_rfl) (fun _ _ _ h => h) (by kernel_rfl) hS2 ?hy12 ?_
                  case hy12 => (intro W hW; clear hW; go_simp; try rfl)
                  simp only [Act.put, List.setIfInBounds_toArray, List.set_cons_zero, List.set_cons_succ]
                  refine wpAnyH_ready (rs := [10]) (by kernel_rfl) (by simp) ?_
                  refine AllReadyH.cons rfl (fun K hK => ?_) AllReadyH.nil
                  go_simp
                  refine (Same12_any a n cpa s b m cpb t _ (HVA.out.below (bel_next BB.out hS2)) (HVB.out.below (bel_next BB.out hS2))).mono ?_
                  rintro e we ⟨rfl, hb⟩
                  rw [HQT.out]
                  refine hK.out _ _ ?hs13 (fun hS3 => ?_)
                  case hs13 => exact bel_next hS2 hb
                  clear hK K hb
                  try simp only [Act.put, List.setIfInBounds_toArray, List.set_cons_zero, List.set_cons_succ]
                  refine wpAnyH_ready (rs := [13]) (by kernel_rfl) (by simp) ?_
                  refine AllReadyH.cons rfl (fun K hK => ?_) AllReadyH.nil
                  go_simp
                  refine (Same12_ref a n cpa s b m cpb t _ (HVA.out.below (bel_next BB.out hS3)) (HVB.out.below (bel_next BB.out hS3))).mono ?_
                  rintro e wf ⟨rfl, hb⟩
                  rw [HQT.out]
                  refine hK.out _ _ ?hs14 (fun hS4 => ?_)
                  case hs14 => exact bel_next hS3 hb
                  clear hK K hb
                  try simp only [Act.put, List.setIfInBounds_toArray, List.set_cons_zero, List.set_cons_succ]
                  refine takeInH 14 55 ?v15 rfl rfl (by kernel_rfl) (by kernel_rfl) (by kernel_rfl) (fun _ _ _ h => h) (by kernel_rfl) hS4 ?hy15 ?_
                  case hy15 => (intro W hW; clear hW; go_simp; try rfl)
                  simp only [Act.put, List.setIfInBounds_toArray, List.set_cons_zero, List.set_cons_succ]
                  refine takeInH 15 56 ?v16 rfl rfl (by kernel_rfl) (by kernel_rfl) (by kernel_rfl) (fun _ _ _ h => h) (by kernel_rfl) hS4 ?hy16 ?_
                  case hy16 => (intro W hW; clear hW; go_simp; try rfl)
                  simp only [Act.put, List.setIfInBounds_toArray, List.set_cons_zero, List.set_cons_succ]
                  refine wpAnyH_done (by kernel_rfl) ?_ _
                  go_wp2
                  go_meet
                  case rel => exact ⟨rfl, (show Hid _ from bel_next BB.out hS4)⟩
                · have HQT := hide hst
                  clear hst
                  refine wp_region_held_drew (S := fun W => Below wy.heap.size wy W) (by kernel_rfl) ((Below.refl _ wy).drew) (fun hS0 => ?_)
                  refine takeInH 0 41 ?v17 rfl rfl (by kernel_rfl) (by kernel_rfl) (by kernel_rfl) (fun _ _ _ h => h) (by kernel_rfl) hS0 ?hy17 ?_
                  case hy17 => (intro W hW; have e0 := bcell hW f0; have e1 := bcell hW f1; have e2 := bcell hW f2; have e3 := bcell hW f3; have e4 := bcell hW h0; have e5 := bcell hW h1; have e6 := bcell hW h2; have e7 := bcell hW h3; clear hW; go_simp; try rfl)
                  simp only [Act.put, List.setIfInBounds_toArray, List.set_cons_zero, List.set_cons_succ]
                  refine takeInH 1 42 ?v18 rfl rfl (by kernel_rfl) (by kernel_rfl) (by kernel_rfl) (fun _ _ _ h => h) (by kernel_rfl) hS0 ?hy18 ?_
                  case hy18 => (intro W hW; have e0 := bcell hW f0; have e1 := bcell hW f1; have e2 := bcell hW f2; have e3 := bcell hW f3; have e4 := bcell hW h0; have e5 := bcell hW h1; have e6 := bcell hW h2; have e7 := bcell hW h3; clear hW; go_simp; try rfl)
                  simp only [Act.put, List.setIfInBounds_toArray, List.set_cons_zero, List.set_cons_succ]
                  refine takeInH 3 44 ?v19 rfl rfl (by kernel_rfl) (by kernel_rfl) (by kernel_rfl) (fun _ _ _ h => h) (by kernel_rfl) hS0 ?hy19 ?_
                  case hy19 => (intro W hW; have e0 := bcell hW f0; have e1 := bcell hW f1; have e2 := bcell hW f2; have e3 := bcell hW f3; have e4 := bcell hW h0; have e5 := bcell hW h1; have e6 := bcell hW h2; have e7 := bcell hW h3; clear hW; go_simp; try rfl)
                  simp only [Act.put, List.setIfInBounds_toArray, List.set_cons_zero, List.set_cons_succ]
                  refine takeInH 4 45 ?v20 rfl rfl (by kernel_rfl) (by kernel_rfl) (by kernel_rfl) (fun _ _ _ h => h) (by kernel_rfl) hS0 ?hy20 ?_
                  case hy20 => (intro W hW; have e0 := bcell hW f0; have e1 := bcell hW f1; have e2 := bcell hW f2; have e3 := bcell hW f3; have e4 := bcell hW h0; have e5 := bcell hW h1; have e6 := bcell hW h2; have e7 := bcell hW h3; clear hW; go_simp; try rfl)
                  simp only [Act.put, List.setIfInBounds_toArray, List.set_cons_zero, List.set_cons_succ]
                  refine wpAnyH_ready (rs := [2]) (by kernel_rfl) (by simp) ?_
                  refine AllReadyH.cons rfl (fun K hK => ?_) AllReadyH.nil
                  go_simp
                  refine (Later12_any pk qk pt qt pr qr pw qw _).mono ?_
                  rintro e wa ⟨rfl, hb⟩
                  rw [show laterN (pk, pt, pr, pw) (qk, qt, qr, qw) = false from HLT.out]
                  refine hK.out _ _ ?hs21 (fun hS1 => ?_)
                  case hs21 => exact bel_next hS0 hb
                  clear hK K hb
                  try simp only [Act.put, List.setIfInBounds_toArray, List.set_cons_zero, List.set_cons_succ]
                  refine wpAnyH_ready (rs := [5]) (by kernel_rfl) (by simp) ?_
                  refine AllReadyH.cons rfl (fun K hK => ?_) AllReadyH.nil
                  go_simp
                  refine (Later12_ref pk qk pt qt pr qr pw qw _).mono ?_
                  rintro e wd ⟨rfl, hb⟩
                  rw [show laterN (pk, pt, pr, pw) (qk, qt, qr, qw) = false from HLT.out]
                  refine hK.out _ _ ?hs22 (fun hS2 => ?_)
                  case hs22 => exact bel_next hS1 hb
                  clear hK K hb
                  try simp only [Act.put, List.setIfInBounds_toArray, List.set_cons_zero, List.set_cons_succ]
                  refine takeInH 6 47 ?v23 rfl rfl (by kernel_rfl) (by kernel_rfl) (by kernel_rfl) (fun _ _ _ h => h) (by kernel_rfl) hS2 ?hy23 ?_
                  case hy23 => (intro W hW; clear hW; go_simp; try rfl)
                  simp only [Act.put, List.setIfInBounds_toArray, List.set_cons_zero, List.set_cons_succ]
                  refine takeInH 7 48 ?v24 rfl rfl (by kernel_rfl) (by kernel_rfl) (by kernel_rfl) (fun _ _ _ h => h) (by kernel_rfl) hS2 ?hy24 ?_
                  case hy24 => (intro W hW; clear hW; go_simp; try rfl)
                  simp only [Act.put, List.setIfInBounds_toArray, List.set_cons_zero, List.set_cons_succ]
                  refine takeInH 8 49 ?v25 rfl rfl (by kernel_rfl) (by kernel_rfl) (by kernel_rfl) (fun _ _ _ h => h) (by kernel_rfl) hS2 ?hy25 ?_
                  case hy25 => (intro W hW; clear hW; go_simp; try rfl)
                  simp only [Act.put, List.setIfInBounds_toArray, List.set_cons_zero, List.set_cons_succ]
                  refine takeInH 9 50 ?v26 rfl rfl (by kernel_rfl) (by kernel_rfl) (by kernel_rfl) (fun _ _ _ h => h) (by kernel_rfl) hS2 ?hy26 ?_
                  case hy26 => (intro W hW; clear hW; go_simp; try rfl)
                  simp only [Act.put, List.setIfInBounds_toArray, List.set_cons_zero, List.set_cons_succ]
                  refine takeInH 11 52 ?v27 rfl rfl (by kernel_rfl) (by kernel_rfl) (by kernel_rfl) (fun _ _ _ h => h) (by kernel_rfl) hS2 ?hy27 ?_
                  case hy27 => (intro W hW; clear hW; go_simp; try rfl)
                  simp only [Act.put, List.setIfInBounds_toArray, List.set_cons_zero, List.set_cons_succ]
                  refine takeInH 12 53 ?v28 rfl rfl (by kernel_rfl) (by kernel_rfl) (by kernel_rfl) (fun _ _ _ h => h) (by kernel_rfl) hS2 ?hy28 ?_
                  case hy28 => (intro W hW; clear hW; go_simp; try rfl)
                  simp only [Act.put, List.setIfInBounds_toArray, List.set_cons_zero, List.set_cons_succ]
                  refine wpAnyH_ready (rs := [10]) (by kernel_rfl) (by simp) ?_
                  refine AllReadyH.cons rfl (fun K hK => ?_) AllReadyH.nil
                  go_simp
                  refine (Same12_any a n cpa s b m cpb t _ (HVA.out.below (bel_next BB.out hS2)) (HVB.out.below (bel_next BB.out hS2))).mono ?_
                  rintro e we ⟨rfl, hb⟩
                  rw [HQT.out]
                  refine hK.out _ _ ?hs29 (fun hS3 => ?_)
                  case hs29 => exact bel_next hS2 hb
                  clear hK K hb
                  try simp only [Act.put, List.setIfInBounds_toArray, List.set_cons_zero, List.set_cons_succ]
                  refine wpAnyH_ready (rs := [13]) (by kernel_rfl) (by simp) ?_
                  refine AllReadyH.cons rfl (fun K hK => ?_) AllReadyH.nil
                  go_simp
                  refine (Same12_ref a n cpa s b m cpb t _ (HVA.out.below (bel_next BB.out hS3)) (HVB.out.below (bel_next BB.out hS3))).mono ?_
                  rintro e wf ⟨rfl, hb⟩
                  rw [HQT.out]
                  refine hK.out _ _ ?hs30 (fun hS4 => ?_)
                  case hs30 => exact bel_next hS3 hb
                  clear hK K hb
                  try simp only [Act.put, List.setIfInBounds_toArray, List.set_cons_zero, List.set_cons_succ]
                  refine takeInH 14 55 ?v31 rfl rfl (by kernel_rfl) (by kernel_rfl) (by kernel_rfl) (fun _ _ _ h => h) (by kernel_rfl) hS4 ?hy31 ?_
                  case hy31 => (intro W hW; clear hW; go_simp; try rfl)
                  simp only [Act.put, List.setIfInBounds_toArray, List.set_cons_zero, List.set_cons_succ]
                  refine takeInH 15 56 ?v32 rfl rfl (by kernel_rfl) (by kernel_rfl) (by kernel_rfl) (fun _ _ _ h => h) (by kernel_rfl) hS4 ?hy32 ?_
                  case hy32 => (intro W hW; clear hW; go_simp; try rfl)
                  simp only [Act.put, List.setIfInBounds_toArray, List.set_cons_zero, List.set_cons_succ]
                  refine wpAnyH_done (by kernel_rfl) ?_ _
                  go_wp2
                  go_meet
                  case rel => exact ⟨rfl, (show Hid _ from bel_next BB.out hS4)⟩
              · have HLT := hide hlt
                clear hlt
                rcases hst : decide (s = t) with _ | _
                · have HQT := hide hst
                  clear hst
                  refine wp_region_held_drew (S := fun W => Below wy.heap.size wy W) (by kernel_rfl) ((Below.refl _ wy).drew) (fun hS0 => ?_)
                  refine takeInH 0 41 ?v33 rfl rfl (by kernel_rfl) (by kernel_rfl) (by kernel_rfl) (fun _ _ _ h => h) (by kernel_rfl) hS0 ?hy33 ?_
                  case hy33 => (intro W hW; have e0 := bcell hW f0; have e1 := bcell hW f1; have e2 := bcell hW f2; have e3 := bcell hW f3; have e4 := bcell hW h0; have e5 := bcell hW h1; have e6 := bcell hW h2; have e7 := bcell hW h3; clear hW; go_simp; try rfl)
                  simp only [Act.put, List.setIfInBounds_toArray, List.set_cons_zero, List.set_cons_succ]
                  refine takeInH 1 42 ?v34 rfl rfl (by kernel_rfl) (by kernel_rfl) (by kernel_rfl) (fun _ _ _ h => h) (by kernel_rfl) hS0 ?hy34 ?_
                  case hy34 => (intro W hW; have e0 := bcell hW f0; have e1 := bcell hW f1; have e2 := bcell hW f2; have e3 := bcell hW f3; have e4 := bcell hW h0; have e5 := bcell hW h1; have e6 := bcell hW h2; have e7 := bcell hW h3; clear hW; go_simp; try rfl)
                  simp only [Act.put, List.setIfInBounds_toArray, List.set_cons_zero, List.set_cons_succ]
                  refine takeInH 3 44 ?v35 rfl rfl (by kernel_rfl) (by kernel_rfl) (by kernel_rfl) (fun _ _ _ h => h) (by kernel_rfl) hS0 ?hy35 ?_
                  case hy35 => (intro W hW; have e0 := bcell hW f0; have e1 := bcell hW f1; have e2 := bcell hW f2; have e3 := bcell hW f3; have e4 := bcell hW h0; have e5 := bcell hW h1; have e6 := bcell hW h2; have e7 := bcell hW h3; clear hW; go_simp; try rfl)
                  simp only [Act.put, List.setIfInBounds_toArray, List.set_cons_zero, List.set_cons_succ]
                  refine takeInH 4 45 ?v36 rfl rfl (by kernel_rfl) (by kernel_rfl) (by kernel_rfl) (fun _ _ _ h => h) (by kernel_rfl) hS0 ?hy36 ?_
                  case hy36 => (intro W hW; have e0 := bcell hW f0; have e1 := bcell hW f1; have e2 := bcell hW f2; have e3 := bcell hW f3; have e4 := bcell hW h0; have e5 := bcell hW h1; have e6 := bcell hW h2; have e7 := bcell hW h3; clear hW; go_simp; try rfl)
                  simp only [Act.put, List.setIfInBounds_toArray, List.set_cons_zero, List.set_cons_succ]
                  refine wpAnyH_ready (rs := [2]) (by kernel_rfl) (by simp) ?_
                  refine AllReadyH.cons rfl (fun K hK => ?_) AllReadyH.nil
                  go_simp
                  refine (Later12_any pk qk pt qt pr qr pw qw _).mono ?_
                  rintro e wa ⟨rfl, hb⟩
                  rw [show laterN (pk, pt, pr, pw) (qk, qt, qr, qw) = true from HLT.out]
                  refine hK.out _ _ ?hs37 (fun hS1 => ?_)
                  case hs37 => exact bel_next hS0 hb
                  clear hK K hb
                  try simp only [Act.put, List.setIfInBounds_toArray, List.set_cons_zero, List.set_cons_succ]
                  refine wpAnyH_ready (rs := [5]) (by kernel_rfl) (by simp) ?_
                  refine AllReadyH.cons rfl (fun K hK => ?_) AllReadyH.nil
                  go_simp
                  refine (Later12_ref pk qk pt qt pr qr pw qw _).mono ?_
                  rintro e wd ⟨rfl, hb⟩
                  rw [show laterN (pk, pt, pr, pw) (qk, qt, qr, qw) = true from HLT.out]
                  refine hK.out _ _ ?hs38 (fun hS2 => ?_)
                  case hs38 => exact bel_next hS1 hb
                  clear hK K hb
                  try simp only [Act.put, List.setIfInBounds_toArray, List.set_cons_zero, List.set_cons_succ]
                  refine takeInH 6 47 ?v39 rfl rfl (by kernel_rfl) (by kernel_rfl) (by kernel_rfl) (fun _ _ _ h => h) (by kernel_rfl) hS2 ?hy39 ?_
                  case hy39 => (intro W hW; clear hW; go_simp; try rfl)
                  simp only [Act.put, List.setIfInBounds_toArray, List.set_cons_zero, List.set_cons_succ]
                  refine takeInH 7 48 ?v40 rfl rfl (by kernel_rfl) (by kernel_rfl) (by kernel_rfl) (fun _ _ _ h => h) (by kernel_rfl) hS2 ?hy40 ?_
                  case hy40 => (intro W hW; clear hW; go_simp; try rfl)
                  simp only [Act.put, List.setIfInBounds_toArray, List.set_cons_zero, List.set_cons_succ]
                  refine takeInH 8 49 ?v41 rfl rfl (by kernel_rfl) (by kernel_rfl) (by kernel_rfl) (fun _ _ _ h => h) (by kernel_rfl) hS2 ?hy41 ?_
                  case hy41 => (intro W hW; clear hW; go_simp; try rfl)
                  simp only [Act.put, List.setIfInBounds_toArray, List.set_cons_zero, List.set_cons_succ]
                  refine takeInH 9 50 ?v42 rfl rfl (by kernel_rfl) (by kernel_rfl) (by kernel_rfl) (fun _ _ _ h => h) (by kernel_rfl) hS2 ?hy42 ?_
                  case hy42 => (intro W hW; clear hW; go_simp; try rfl)
                  simp only [Act.put, List.setIfInBounds_toArray, List.set_cons_zero, List.set_cons_succ]
                  refine takeInH 11 52 ?v43 rfl rfl (by kernel_rfl) (by kernel_rfl) (by kernel_rfl) (fun _ _ _ h => h) (by kernel_rfl) hS2 ?hy43 ?_
                  case hy43 => (intro W hW; clear hW; go_simp; try rfl)
                  simp only [Act.put, List.setIfInBounds_toArray, List.set_cons_zero, List.set_cons_succ]
                  refine takeInH 12 53 ?v44 rfl rfl (by kernel_rfl) (by kernel_rfl) (by kernel_rfl) (fun _ _ _ h => h) (by kernel_rfl) hS2 ?hy44 ?_
                  case hy44 => (intro W hW; clear hW; go_simp; try rfl)
                  simp only [Act.put, List.setIfInBounds_toArray, List.set_cons_zero, List.set_cons_succ]
                  refine wpAnyH_ready (rs := [10]) (by kernel_rfl) (by simp) ?_
                  refine AllReadyH.cons rfl (fun K hK => ?_) AllReadyH.nil
                  go_simp
                  refine (Same12_any a n cpa s b m cpb t _ (HVA.out.below (bel_next BB.out hS2)) (HVB.out.below (bel_next BB.out hS2))).mono ?_
                  rintro e we ⟨rfl, hb⟩
                  rw [HQT.out]
                  refine hK.out _ _ ?hs45 (fun hS3 => ?_)
                  case hs45 => exact bel_next hS2 hb
                  clear hK K hb
                  try simp only [Act.put, List.setIfInBounds_toArray, List.set_cons_zero, List.set_cons_succ]
                  refine wpAnyH_ready (rs := [13]) (by kernel_rfl) (by simp) ?_
                  refine AllReadyH.cons rfl (fun K hK => ?_) AllReadyH.nil
                  go_simp
                  refine (Same12_ref a n cpa s b m cpb t _ (HVA.out.below (bel_next BB.out hS3)) (HVB.out.below (bel_next BB.out hS3))).mono ?_
                  rintro e wf ⟨rfl, hb⟩
                  rw [HQT.out]
                  refine hK.out _ _ ?hs46 (fun hS4 => ?_)
                  case hs46 => exact bel_next hS3 hb
                  clear hK K hb
                  try simp only [Act.put, List.setIfInBounds_toArray, List.set_cons_zero, List.set_cons_succ]
                  refine takeInH 14 55 ?v47 rfl rfl (by kernel_rfl) (by kernel_rfl) (by kernel_rfl) (fun _ _ _ h => h) (by kernel_rfl) hS4 ?hy47 ?_
                  case hy47 => (intro W hW; clear hW; go_simp; try rfl)
                  simp only [Act.put, List.setIfInBounds_toArray, List.set_cons_zero, List.set_cons_succ]
                  refine takeInH 15 56 ?v48 rfl rfl (by kernel_rfl) (by kernel_rfl) (by kernel_rfl) (fun _ _ _ h => h) (by kernel_rfl) hS4 ?hy48 ?_
                  case hy48 => (intro W hW; clear hW; go_simp; try rfl)
                  simp only [Act.put, List.setIfInBounds_toArray, List.set_cons_zero, List.set_cons_succ]
                  refine wpAnyH_done (by kernel_rfl) ?_ _
                  go_wp2
                  go_meet
                  case rel => exact ⟨rfl, (show Hid _ from bel_next BB.out hS4)⟩
                · have HQT := hide hst
                  clear hst
                  refine wp_region_held_drew (S := fun W => Below wy.heap.size wy W) (by kernel_rfl) ((Below.refl _ wy).drew) (fun hS0 => ?_)
                  refine takeInH 0 41 ?v49 rfl rfl (by kernel_rfl) (by kernel_rfl) (by kernel_rfl) (fun _ _ _ h => h) (by kernel_rfl) hS0 ?hy49 ?_
                  case hy49 => (intro W hW; have e0 := bcell hW f0; have e1 := bcell hW f1; have e2 := bcell hW f2; have e3 := bcell hW f3; have e4 := bcell hW h0; have e5 := bcell hW h1; have e6 := bcell hW h2; have e7 := bcell hW h3; clear hW; go_simp; try rfl)
                  simp only [Act.put, List.setIfInBounds_toArray, List.set_cons_zero, List.set_cons_succ]
                  refine takeInH 1 42 ?v50 rfl rfl (by kernel_rfl) (by kernel_rfl) (by kernel_rfl) (fun _ _ _ h => h) (by kernel_rfl) hS0 ?hy50 ?_
                  case hy50 => (intro W hW; have e0 := bcell hW f0; have e1 := bcell hW f1; have e2 := bcell hW f2; have e3 := bcell hW f3; have e4 := bcell hW h0; have e5 := bcell hW h1; have e6 := bcell hW h2; have e7 := bcell hW h3; clear hW; go_simp; try rfl)
                  simp only [Act.put, List.setIfInBounds_toArray, List.set_cons_zero, List.set_cons_succ]
                  refine takeInH 3 44 ?v51 rfl rfl (by kernel_rfl) (by kernel_rfl) (by kernel_rfl) (fun _ _ _ h => h) (by kernel_rfl) hS0 ?hy51 ?_
                  case hy51 => (intro W hW; have e0 := bcell hW f0; have e1 := bcell hW f1; have e2 := bcell hW f2; have e3 := bcell hW f3; have e4 := bcell hW h0; have e5 := bcell hW h1; have e6 := bcell hW h2; have e7 := bcell hW h3; clear hW; go_simp; try rfl)
                  simp only [Act.put, List.setIfInBounds_toArray, List.set_cons_zero, List.set_cons_succ]
                  refine takeInH 4 45 ?v52 rfl rfl (by kernel_rfl) (by kernel_rfl) (by kernel_rfl) (fun _ _ _ h => h) (by kernel_rfl) hS0 ?hy52 ?_
                  case hy52 => (intro W hW; have e0 := bcell hW f0; have e1 := bcell hW f1; have e2 := bcell hW f2; have e3 := bcell hW f3; have e4 := bcell hW h0; have e5 := bcell hW h1; have e6 := bcell hW h2; have e7 := bcell hW h3; clear hW; go_simp; try rfl)
                  simp only [Act.put, List.setIfInBounds_toArray, List.set_cons_zero, List.set_cons_succ]
                  refine wpAnyH_ready (rs := [2]) (by kernel_rfl) (by simp) ?_
                  refine AllReadyH.cons rfl (fun K hK => ?_) AllReadyH.nil
                  go_simp
                  refine (Later12_any pk qk pt qt pr qr pw qw _).mono ?_
                  rintro e wa ⟨rfl, hb⟩
                  rw [show laterN (pk, pt, pr, pw) (qk, qt, qr, qw) = true from HLT.out]
                  refine hK.out _ _ ?hs53 (fun hS1 => ?_)
                  case hs53 => exact bel_next hS0 hb
                  clear hK K hb
                  try simp only [Act.put, List.setIfInBounds_toArray, List.set_cons_zero, List.set_cons_succ]
                  refine wpAnyH_ready (rs := [5]) (by kernel_rfl) (by simp) ?_
                  refine AllReadyH.cons rfl (fun K hK => ?_) AllReadyH.nil
                  go_simp
                  refine (Later12_ref pk qk pt qt pr qr pw qw _).mono ?_
                  rintro e wd ⟨rfl, hb⟩
                  rw [show laterN (pk, pt, pr, pw) (qk, qt, qr, qw) = true from HLT.out]
                  refine hK.out _ _ ?hs54 (fun hS2 => ?_)
                  case hs54 => exact bel_next hS1 hb
                  clear hK K hb
                  try simp only [Act.put, List.setIfInBounds_toArray, List.set_cons_zero, List.set_cons_succ]
                  refine takeInH 6 47 ?v55 rfl rfl (by kernel_rfl) (by kernel_rfl) (by kernel_rfl) (fun _ _ _ h => h) (by kernel_rfl) hS2 ?hy55 ?_
                  case hy55 => (intro W hW; clear hW; go_simp; try rfl)
                  simp only [Act.put, List.setIfInBounds_toArray, List.set_cons_zero, List.set_cons_succ]
                  refine takeInH 7 48 ?v56 rfl rfl (by kernel_rfl) (by kernel_rfl) (by kernel_rfl) (fun _ _ _ h => h) (by kernel_rfl) hS2 ?hy56 ?_
                  case hy56 => (intro W hW; clear hW; go_simp; try rfl)
                  simp only [Act.put, List.setIfInBounds_toArray, List.set_cons_zero, List.set_cons_succ]
                  refine takeInH 8 49 ?v57 rfl rfl (by kernel_rfl) (by kernel_rfl) (by kernel_rfl) (fun _ _ _ h => h) (by kernel_rfl) hS2 ?hy57 ?_
                  case hy57 => (intro W hW; clear hW; go_simp; try rfl)
                  simp only [Act.put, List.setIfInBounds_toArray, List.set_cons_zero, List.set_cons_succ]
                  refine takeInH 9 50 ?v58 rfl rfl (by kernel_rfl) (by kernel_rfl) (by kernel_rfl) (fun _ _ _ h => h) (by kernel_rfl) hS2 ?hy58 ?_
                  case hy58 => (intro W hW; clear hW; go_simp; try rfl)
                  simp only [Act.put, List.setIfInBounds_toArray, List.set_cons_zero, List.set_cons_succ]
                  refine takeInH 11 52 ?v59 rfl rfl (by kernel_rfl) (by kernel_rfl) (by kernel_rfl) (fun _ _ _ h => h) (by kernel_rfl) hS2 ?hy59 ?_
                  case hy59 => (intro W hW; clear hW; go_simp; try rfl)
                  simp only [Act.put, List.setIfInBounds_toArray, List.set_cons_zero, List.set_cons_succ]
                  refine takeInH 12 53 ?v60 rfl rfl (by kernel_rfl) (by kernel_rfl) (by kernel_rfl) (fun _ _ _ h => h) (by kernel_rfl) hS2 ?hy60 ?_
                  case hy60 => (intro W hW; clear hW; go_simp; try rfl)
                  simp only [Act.put, List.setIfInBounds_toArray, List.set_cons_zero, List.set_cons_succ]
                  refine wpAnyH_ready (rs := [10]) (by kernel_rfl) (by simp) ?_
                  refine AllReadyH.cons rfl (fun K hK => ?_) AllReadyH.nil
                  go_simp
                  refine (Same12_any a n cpa s b m cpb t _ (HVA.out.below (bel_next BB.out hS2)) (HVB.out.below (bel_next BB.out hS2))).mono ?_
                  rintro e we ⟨rfl, hb⟩
                  rw [HQT.out]
                  refine hK.out _ _ ?hs61 (fun hS3 => ?_)
                  case hs61 => exact bel_next hS2 hb
                  clear hK K hb
                  try simp only [Act.put, List.setIfInBounds_toArray, List.set_cons_zero, List.set_cons_succ]
                  refine wpAnyH_ready (rs := [13]) (by kernel_rfl) (by simp) ?_
                  refine AllReadyH.cons rfl (fun K hK => ?_) AllReadyH.nil
                  go_simp
                  refine (Same12_ref a n cpa s b m cpb t _ (HVA.out.below (bel_next BB.out hS3)) (HVB.out.below (bel_next BB.out hS3))).mono ?_
                  rintro e wf ⟨rfl, hb⟩
                  rw [HQT.out]
                  refine hK.out _ _ ?hs62 (fun hS4 => ?_)
                  case hs62 => exact bel_next hS3 hb
                  clear hK K hb
                  try simp only [Act.put, List.setIfInBounds_toArray, List.set_cons_zero, List.set_cons_succ]
                  refine takeInH 14 55 ?v63 rfl rfl (by kernel_rfl) (by kernel_rfl) (by kernel_rfl) (fun _ _ _ h => h) (by kernel_rfl) hS4 ?hy63 ?_
                  case hy63 => (intro W hW; clear hW; go_simp; try rfl)
                  simp only [Act.put, List.setIfInBounds_toArray, List.set_cons_zero, List.set_cons_succ]
                  refine takeInH 15 56 ?v64 rfl rfl (by kernel_rfl) (by kernel_rfl) (by kernel_rfl) (fun _ _ _ h => h) (by kernel_rfl) hS4 ?hy64 ?_
                  case hy64 => (intro W hW; clear hW; go_simp; try rfl)
                  simp only [Act.put, List.setIfInBounds_toArray, List.set_cons_zero, List.set_cons_succ]
                  refine wpAnyH_done (by kernel_rfl) ?_ _
                  go_wp2
                  go_meet
                  case rel => exact ⟨rfl, (show Hid _ from bel_next BB.out hS4)⟩
            case rest =>
              clear f0 f1 f2 f3 h0 h1 h2 h3 BB
              obtain ⟨rfl, BB⟩ := hcut
              go_wp2_with (go_at_call 12; refine (May12_ref a n cpa s _ (HVA.out.below BB.out)).mono ?_; rintro e wy ⟨rfl, hb⟩; rw [HMS.out]; replace BB := hide (bel_next BB.out hb); (try replace HX7 := hide (HX7.out.below hb)); (try replace HX8 := hide (HX8.out.below hb)); (try replace HN2 := hide (HN2.out.below hb)); (try replace HN3 := hide (HN3.out.below hb)); (try replace HNW := hide (HNW.out.below hb)); clear hb; refine Stop.at ?_)
              unfold Stop
              go_wp2_with (go_at_call 8; refine (awake12 _).mono ?_; rintro e wz ⟨rfl, hb⟩)
              go_ret
              exact ⟨rfl, bel_next BB.out hb⟩
          · have HMS := hide hms
            rcases hmt : mayR12 t with _ | _
            · have HMT := hide hmt
              have HNO : Hid ((mayR12 s && mayR12 t) = false) := by unfold Hid; rw [hms, hmt]; rfl
              clear hms hmt
              go_upto_region 5 with (go_at_call 17; refine (Join12_bad a n cpa s b m cpb t _ (HVA.out.below BB.out) (HVB.out.below BB.out) HNO.out).mono ?_; rintro e wy ⟨rfl, hb⟩; replace BB := hide (bel_next BB.out hb); (try replace HX7 := hide (HX7.out.below hb)); (try replace HX8 := hide (HX8.out.below hb)); (try replace HN2 := hide (HN2.out.below hb)); (try replace HN3 := hide (HN3.out.below hb)); (try replace HNW := hide (HNW.out.below hb)); clear hb)
              have f0 := HX7.out.cell 0 _ rfl
              have h0 := HX8.out.cell 0 _ rfl
              have f1 := HX7.out.cell 1 _ rfl
              have h1 := HX8.out.cell 1 _ rfl
              have f2 := HX7.out.cell 2 _ rfl
              have h2 := HX8.out.cell 2 _ rfl
              have f3 := HX7.out.cell 3 _ rfl
              have h3 := HX8.out.cell 3 _ rfl
              go_cut [56] from 41 to 56 (fun v wx => v = .bool false ∧ Hid (Below w.heap.size w wx))
              case first =>
                rcases hlt : laterN (pk, pt, pr, pw) (qk, qt, qr, qw) with _ | _
                · have HLT := hide hlt
                  clear hlt
                  rcases hst : decide (s = t) with _ | _
                  · have HQT := hide hst
                    clear hst
                    refine wp_region_held_drew (S := fun W => Below wy.heap.size wy W) (by kernel_rfl) ((Below.refl _ wy).drew) (fun hS0 => ?_)
                    refine takeInH 0 41 ?v65 rfl rfl (by kernel_rfl) (by kernel_rfl) (by kernel_rfl) (fun _ _ _ h => h) (by kernel_rfl) hS0 ?hy65 ?_
                    case hy65 => (intro W hW; have e0 := bcell hW f0; have e1 := bcell hW f1; have e2 := bcell hW f2; have e3 := bcell hW f3; have e4 := bcell hW h0; have e5 := bcell hW h1; have e6 := bcell hW h2; have e7 := bcell hW h3; clear hW; go_simp; try rfl)
                    simp only [Act.put, List.setIfInBounds_toArray, List.set_cons_zero, List.set_cons_succ]
                    refine takeInH 1 42 ?v66 rfl rfl (by kernel_rfl) (by kernel_rfl) (by kernel_rfl) (fun _ _ _ h => h) (by kernel_rfl) hS0 ?hy66 ?_
                    case hy66 => (intro W hW; have e0 := bcell hW f0; have e1 := bcell hW f1; have e2 := bcell hW f2; have e3 := bcell hW f3; have e4 := bcell hW h0; have e5 := bcell hW h1; have e6 := bcell hW h2; have e7 := bcell hW h3; clear hW; go_simp; try rfl)
                    simp only [Act.put, List.setIfInBounds_toArray, List.set_cons_zero, List.set_cons_succ]
                    refine takeInH 3 44 ?v67 rfl rfl (by kernel_rfl) (by kernel_rfl) (by kernel_rfl) (fun _ _ _ h => h) (by kernel_rfl) hS0 ?hy67 ?_
                    case hy67 => (intro W hW; have e0 := bcell hW f0; have e1 := bcell hW f1; have e2 := bcell hW f2; have e3 := bcell hW f3; have e4 := bcell hW h0; have e5 := bcell hW h1; have e6 := bcell hW h2; have e7 := bcell hW h3; clear hW; go_simp; try rfl)
                    simp only [Act.put, List.setIfInBounds_toArray, List.set_cons_zero, List.set_cons_succ]
                    refine takeInH 4 45 ?v68 rfl rfl (by kernel_rfl) (by kernel_rfl) (by kernel_rfl) (fun _ _ _ h => h) (by kernel_rfl) hS0 ?hy68 ?_
                    case hy68 => (intro W hW; have e0 := bcell hW f0; have e1 := bcell hW f1; have e2 := bcell hW f2; have e3 := bcell hW f3; have e4 := bcell hW h0; have e5 := bcell hW h1; have e6 := bcell hW h2; have e7 := bcell hW h3; clear hW; go_simp; try rfl)
                    simp only [Act.put, List.setIfInBounds_toArray, List.set_cons_zero, List.set_cons_succ]
                    refine wpAnyH_ready (rs := [2]) (by kernel_rfl) (by simp) ?_
                    refine AllReadyH.cons rfl (fun K hK => ?_) AllReadyH.nil
                    go_simp
                    refine (Later12_any pk qk pt qt pr qr pw qw _).mono ?_
                    rintro e wa ⟨rfl, hb⟩
                    rw [show laterN (pk, pt, pr, pw) (qk, qt, qr, qw) = false from HLT.out]
                    refine hK.out _ _ ?hs69 (fun hS1 => ?_)
                    case hs69 => exact bel_next hS0 hb
                    clear hK K hb
                    try simp only [Act.put, List.setIfInBounds_toArray, List.set_cons_zero, List.set_cons_succ]
                    refine wpAnyH_ready (rs := [5]) (by kernel_rfl) (by simp) ?_
                    refine AllReadyH.cons rfl (fun K hK => ?_) AllReadyH.nil
                    go_simp
                    refine (Later12_ref pk qk pt qt pr qr pw qw _).mono ?_
                    rintro e wd ⟨rfl, hb⟩
                    rw [show laterN (pk, pt, pr, pw) (qk, qt, qr, qw) = false from HLT.out]
                    refine hK.out _ _ ?hs70 (fun hS2 => ?_)
                    case hs70 => exact bel_next hS1 hb
                    clear hK K hb
                    try simp only [Act.put, List.setIfInBounds_toArray, List.set_cons_zero, List.set_cons_succ]
                    refine takeInH 6 47 ?v71 rfl rfl (by kernel_rfl) (by kernel_rfl) (by kernel_rfl) (fun _ _ _ h => h) (by kernel_rfl) hS2 ?hy71 ?_
                    case hy71 => (intro W hW; clear hW; go_simp; try rfl)
                    simp only [Act.put, List.setIfInBounds_toArray, List.set_cons_zero, List.set_cons_succ]
                    refine takeInH 7 48 ?v72 rfl rfl (by kernel_rfl) (by kernel_rfl) (by kernel_rfl) (fun _ _ _ h => h) (by kernel_rfl) hS2 ?hy72 ?_
                    case hy72 => (intro W hW; clear hW; go_simp; try rfl)
                    simp only [Act.put, List.setIfInBounds_toArray, List.set_cons_zero, List.set_cons_succ]
                    refine takeInH 8 49 ?v73 rfl rfl (by kernel_rfl) (by kernel_rfl) (by kernel_rfl) (fun _ _ _ h => h) (by kernel_rfl) hS2 ?hy73 ?_
                    case hy73 => (intro W hW; clear hW; go_simp; try rfl)
                    simp only [Act.put, List.setIfInBounds_toArray, List.set_cons_zero, List.set_cons_succ]
                    refine takeInH 9 50 ?v74 rfl rfl (by kernel_rfl) (by kernel_rfl) (by kernel_rfl) (fun _ _ _ h => h) (by kernel_rfl) hS2 ?hy74 ?_
                    case hy74 => (intro W hW; clear hW; go_simp; try rfl)
                    simp only [Act.put, List.setIfInBounds_toArray, List.set_cons_zero, List.set_cons_succ]
                    refine takeInH 11 52 ?v75 rfl rfl (by kernel_rfl) (by kernel_rfl) (by kernel_rfl) (fun _ _ _ h => h) (by kernel_rfl) hS2 ?hy75 ?_
                    case hy75 => (intro W hW; clear hW; go_simp; try rfl)
                    simp only [Act.put, List.setIfInBounds_toArray, List.set_cons_zero, List.set_cons_succ]
                    refine takeInH 12 53 ?v76 rfl rfl (by kernel_rfl) (by kernel_rfl) (by kernel_rfl) (fun _ _ _ h => h) (by kernel_rfl) hS2 ?hy76 ?_
                    case hy76 => (intro W hW; clear hW; go_simp; try rfl)
                    simp only [Act.put, List.setIfInBounds_toArray, List.set_cons_zero, List.set_cons_succ]
                    refine wpAnyH_ready (rs := [10]) (by kernel_rfl) (by simp) ?_
                    refine AllReadyH.cons rfl (fun K hK => ?_) AllReadyH.nil
                    go_simp
                    refine (Same12_any a n cpa s b m cpb t _ (HVA.out.below (bel_next BB.out hS2)) (HVB.out.below (bel_next BB.out hS2))).mono ?_
                    rintro e we ⟨rfl, hb⟩
                    rw [HQT.out]
                    refine hK.out _ _ ?hs77 (fun hS3 => ?_)
                    case hs77 => exact bel_next hS2 hb
                    clear hK K hb
                    try simp only [Act.put, List.setIfInBounds_toArray, List.set_cons_zero, List.set_cons_succ]
                    refine wpAnyH_ready (rs := [13]) (by kernel_rfl) (by simp) ?_
                    refine AllReadyH.cons rfl (fun K hK => ?_) AllReadyH.nil
                    go_simp
                    refine (Same12_ref a n cpa s b m cpb t _ (HVA.out.below (bel_next BB.out hS3)) (HVB.out.below (bel_next BB.out hS3))).mono ?_
                    rintro e wf ⟨rfl, hb⟩
                    rw [HQT.out]
                    refine hK.out _ _ ?hs78 (fun hS4 => ?_)
                    case hs78 => exact bel_next hS3 hb
                    clear hK K hb
                    try simp only [Act.put, List.setIfInBounds_toArray, List.set_cons_zero, List.set_cons_succ]
                    refine takeInH 14 55 ?v79 rfl rfl (by kernel_rfl) (by kernel_rfl) (by kernel_rfl) (fun _ _ _ h => h) (by kernel_rfl) hS4 ?hy79 ?_
                    case hy79 => (intro W hW; clear hW; go_simp; try rfl)
                    simp only [Act.put, List.setIfInBounds_toArray, List.set_cons_zero, List.set_cons_succ]
                    refine takeInH 15 56 ?v80 rfl rfl (by kernel_rfl) (by kernel_rfl) (by kernel_rfl) (fun _ _ _ h => h) (by kernel_rfl) hS4 ?hy80 ?_
                    case hy80 => (intro W hW; clear hW; go_simp; try rfl)
                    simp only [Act.put, List.setIfInBounds_toArray, List.set_cons_zero, List.set_cons_succ]
                    refine wpAnyH_done (by kernel_rfl) ?_ _
                    go_wp2
                    go_meet
                    case rel => exact ⟨rfl, (show Hid _ from bel_next BB.out hS4)⟩
                  · have HQT := hide hst
                    clear hst
                    refine wp_region_held_drew (S := fun W => Below wy.heap.size wy W) (by kernel_rfl) ((Below.refl _ wy).drew) (fun hS0 => ?_)
                    refine takeInH 0 41 ?v81 rfl rfl (by kernel_rfl) (by kernel_rfl) (by kernel_rfl) (fun _ _ _ h => h) (by kernel_rfl) hS0 ?hy81 ?_
                    case hy81 => (intro W hW; have e0 := bcell hW f0; have e1 := bcell hW f1; have e2 := bcell hW f2; have e3 := bcell hW f3; have e4 := bcell hW h0; have e5 := bcell hW h1; have e6 := bcell hW h2; have e7 := bcell hW h3; clear hW; go_simp; try rfl)
                    simp only [Act.put, List.setIfInBounds_toArray, List.set_cons_zero, List.set_cons_succ]
                    refine takeInH 1 42 ?v82 rfl rfl (by kernel_rfl) (by kernel_rfl) (by kernel_rfl) (fun _ _ _ h => h) (by kernel_rfl) hS0 ?hy82 ?_
                    case hy82 => (intro W hW; have e0 := bcell hW f0; have e1 := bcell hW f1; have e2 := bcell hW f2; have e3 := bcell hW f3; have e4 := bcell hW h0; have e5 := bcell hW h1; have e6 := bcell hW h2; have e7 := bcell hW h3; clear hW; go_simp; try rfl)
                    simp only [Act.put, List.setIfInBounds_toArray, List.set_cons_zero, List.set_cons_succ]
                    refine takeInH 3 44 ?v83 rfl rfl (by kernel_rfl) (by kernel_rfl) (by kernel_rfl) (fun _ _ _ h => h) (by kernel_rfl) hS0 ?hy83 ?_
                    case hy83 => (intro W hW; have e0 := bcell hW f0; have e1 := bcell hW f1; have e2 := bcell hW f2; have e3 := bcell hW f3; have e4 := bcell hW h0; have e5 := bcell hW h1; have e6 := bcell hW h2; have e7 := bcell hW h3; clear hW; go_simp; try rfl)
                    simp only [Act.put, List.setIfInBounds_toArray, List.set_cons_zero, List.set_cons_succ]
                    refine takeInH 4 45 ?v84 rfl rfl (by kernel_rfl) (by kernel_rfl) (by kernel_rfl) (fun _ _ _ h => h) (by kernel_rfl) hS0 ?hy84 ?_
                    case hy84 => (intro W hW; have e0 := bcell hW f0; have e1 := bcell hW f1; have e2 := bcell hW f2; have e3 := bcell hW f3; have e4 := bcell hW h0; have e5 := bcell hW h1; have e6 := bcell hW h2; have e7 := bcell hW h3; clear hW; go_simp; try rfl)
                    simp only [Act.put, List.setIfInBounds_toArray, List.set_cons_zero, List.set_cons_succ]
                    refine wpAnyH_ready (rs := [2]) (by kernel_rfl) (by simp) ?_
                    refine AllReadyH.cons rfl (fun K hK => ?_) AllReadyH.nil
                    go_simp
                    refine (Later12_any pk qk pt qt pr qr pw qw _).mono ?_
                    rintro e wa ⟨rfl, hb⟩
                    rw [show laterN (pk, pt, pr, pw) (qk, qt, qr, qw) = false from HLT.out]
                    refine hK.out _ _ ?hs85 (fun hS1 => ?_)
                    case hs85 => exact bel_next hS0 hb
                    clear hK K hb
                    try simp only [Act.put, List.setIfInBounds_toArray, List.set_cons_zero, List.set_cons_succ]
                    refine wpAnyH_ready (rs := [5]) (by kernel_rfl) (by simp) ?_
                    refine AllReadyH.cons rfl (fun K hK => ?_) AllReadyH.nil
                    go_simp
                    refine (Later12_ref pk qk pt qt pr qr pw qw _).mono ?_
                    rintro e wd ⟨rfl, hb⟩
                    rw [show laterN (pk, pt, pr, pw) (qk, qt, qr, qw) = false from HLT.out]
                    refine hK.out _ _ ?hs86 (fun hS2 => ?_)
                    case hs86 => exact bel_next hS1 hb
                    clear hK K hb
                    try simp only [Act.put, List.setIfInBounds_toArray, List.set_cons_zero, List.set_cons_succ]
                    refine takeInH 6 47 ?v87 rfl rfl (by kernel_rfl) (by kernel_rfl) (by kernel_rfl) (fun _ _ _ h => h) (by kernel_rfl) hS2 ?hy87 ?_
                    case hy87 => (intro W hW; clear hW; go_simp; try rfl)
                    simp only [Act.put, List.setIfInBounds_toArray, List.set_cons_zero, List.set_cons_succ]
                    refine takeInH 7 48 ?v88 rfl rfl (by kernel_rfl) (by kernel_rfl) (by kernel_rfl) (fun _ _ _ h => h) (by kernel_rfl) hS2 ?hy88 ?_
                    case hy88 => (intro W hW; clear hW; go_simp; try rfl)
                    simp only [Act.put, List.setIfInBounds_toArray, List.set_cons_zero, List.set_cons_succ]
                    refine takeInH 8 49 ?v89 rfl rfl (by kernel_rfl) (by kernel_rfl) (by kernel_rfl) (fun _ _ _ h => h) (by kernel_rfl) hS2 ?hy89 ?_
                    case hy89 => (intro W hW; clear hW; go_simp; try rfl)
                    simp only [Act.put, List.setIfInBounds_toArray, List.set_cons_zero, List.set_cons_succ]
                    refine takeInH 9 50 ?v90 rfl rfl (by kernel_rfl) (by kernel_rfl) (by kernel_rfl) (fun _ _ _ h => h) (by kernel_rfl) hS2 ?hy90 ?_
                    case hy90 => (intro W hW; clear hW; go_simp; try rfl)
                    simp only [Act.put, List.setIfInBounds_toArray, List.set_cons_zero, List.set_cons_succ]
                    refine takeInH 11 52 ?v91 rfl rfl (by kernel_rfl) (by kernel_rfl) (by kernel_rfl) (fun _ _ _ h => h) (by kernel_rfl) hS2 ?hy91 ?_
                    case hy91 => (intro W hW; clear hW; go_simp; try rfl)
                    simp only [Act.put, List.setIfInBounds_toArray, List.set_cons_zero, List.set_cons_succ]
                    refine takeInH 12 53 ?v92 rfl rfl (by kernel_rfl) (by kernel_rfl) (by kernel_rfl) (fun _ _ _ h => h) (by kernel_rfl) hS2 ?hy92 ?_
                    case hy92 => (intro W hW; clear hW; go_simp; try rfl)
                    simp only [Act.put, List.setIfInBounds_toArray, List.set_cons_zero, List.set_cons_succ]
                    refine wpAnyH_ready (rs := [10]) (by kernel_rfl) (by simp) ?_
                    refine AllReadyH.cons rfl (fun K hK => ?_) AllReadyH.nil
                    go_simp
                    refine (Same12_any a n cpa s b m cpb t _ (HVA.out.below (bel_next BB.out hS2)) (HVB.out.below (bel_next BB.out hS2))).mono ?_
                    rintro e we ⟨rfl, hb⟩
                    rw [HQT.out]
                    refine hK.out _ _ ?hs93 (fun hS3 => ?_)
                    case hs93 => exact bel_next hS2 hb
                    clear hK K hb
                    try simp only [Act.put, List.setIfInBounds_toArray, List.set_cons_zero, List.set_cons_succ]
                    refine wpAnyH_ready (rs := [13]) (by kernel_rfl) (by simp) ?_
                    refine AllReadyH.cons rfl (fun K hK => ?_) AllReadyH.nil
                    go_simp
                    refine (Same12_ref a n cpa s b m cpb t _ (HVA.out.below (bel_next BB.out hS3)) (HVB.out.below (bel_next BB.out hS3))).mono ?_
                    rintro e wf ⟨rfl, hb⟩
                    rw [HQT.out]
                    refine hK.out _ _ ?hs94 (fun hS4 => ?_)
                    case hs94 => exact bel_next hS3 hb
                    clear hK K hb
                    try simp only [Act.put, List.setIfInBounds_toArray, List.set_cons_zero, List.set_cons_succ]
                    refine takeInH 14 55 ?v95 rfl rfl (by kernel_rfl) (by kernel_rfl) (by kernel_rfl) (fun _ _ _ h => h) (by kernel_rfl) hS4 ?hy95 ?_
                    case hy95 => (intro W hW; clear hW; go_simp; try rfl)
                    simp only [Act.put, List.setIfInBounds_toArray, List.set_cons_zero, List.set_cons_succ]
                    refine takeInH 15 56 ?v96 rfl rfl (by kernel_rfl) (by kernel_rfl) (by kernel_rfl) (fun _ _ _ h => h) (by kernel_rfl) hS4 ?hy96 ?_
                    case hy96 => (intro W hW; clear hW; go_simp; try rfl)
                    simp only [Act.put, List.setIfInBounds_toArray, List.set_cons_zero, List.set_cons_succ]
                    refine wpAnyH_done (by kernel_rfl) ?_ _
                    go_wp2
                    go_meet
                    case rel => exact ⟨rfl, (show Hid _ from bel_next BB.out hS4)⟩
                · have HLT := hide hlt
                  clear hlt
                  rcases hst : decide (s = t) with _ | _
                  · have HQT := hide hst
                    clear hst
                    refine wp_region_held_drew (S := fun W => Below wy.heap.size wy W) (by kernel_rfl) ((Below.refl _ wy).drew) (fun hS0 => ?_)
                    refine takeInH 0 41 ?v97 rfl rfl (by kernel_rfl) (by kernel_rfl) (by kernel_rfl) (fun _ _ _ h => h) (by kernel_rfl) hS0 ?hy97 ?_
                    case hy97 => (intro W hW; have e0 := bcell hW f0; have e1 := bcell hW f1; have e2 := bcell hW f2; have e3 := bcell hW f3; have e4 := bcell hW h0; have e5 := bcell hW h1; have e6 := bcell hW h2; have e7 := bcell hW h3; clear hW; go_simp; try rfl)
                    simp only [Act.put, List.setIfInBounds_toArray, List.set_cons_zero, List.set_cons_succ]
                    refine takeInH 1 42 ?v98 rfl rfl (by kernel_rfl) (by kernel_rfl) (by kernel_rfl) (fun _ _ _ h => h) (by kernel_rfl) hS0 ?hy98 ?_
                    case hy98 => (intro W hW; have e0 := bcell hW f0; have e1 := bcell hW f1; have e2 := bcell hW f2; have e3 := bcell hW f3; have e4 := bcell hW h0; have e5 := bcell hW h1; have e6 := bcell hW h2; have e7 := bcell hW h3; clear hW; go_simp; try rfl)
                    simp only [Act.put, List.setIfInBounds_toArray, List.set_cons_zero, List.set_cons_succ]
                    refine takeInH 3 44 ?v99 rfl rfl (by kernel_rfl) (by kernel_rfl) (by kernel_rfl) (fun _ _ _ h => h) (by kernel_rfl) hS0 ?hy99 ?_
                    case hy99 => (intro W hW; have e0 := bcell hW f0; have e1 := bcell hW f1; have e2 := bcell hW f2; have e3 := bcell hW f3; have e4 := bcell hW h0; have e5 := bcell hW h1; have e6 := bcell hW h2; have e7 := bcell hW h3; clear hW; go_simp; try rfl)
                    simp only [Act.put, List.setIfInBounds_toArray, List.set_cons_zero, List.set_cons_succ]
                    refine takeInH 4 45 ?v100 rfl rfl (by kernel_rfl) (by kernel_rfl) (by kernel_rfl) (fun _ _ _ h => h) (by kernel_rfl) hS0 ?hy100 ?_
                    case hy100 => (intro W hW; have e0 := bcell hW f0; have e1 := bcell hW f1; have e2 := bcell hW f2; have e3 := bcell hW f3; have e4 := bcell hW h0; have e5 := bcell hW h1; have e6 := bcell hW h2; have e7 := bcell hW h3; clear hW; go_simp; try rfl)
                    simp only [Act.put, List.setIfInBounds_toArray, List.set_cons_zero, List.set_cons_succ]
                    refine wpAnyH_ready (rs := [2]) (by kernel_rfl) (by simp) ?_
                    refine AllReadyH.cons rfl (fun K hK => ?_) AllReadyH.nil
                    go_simp
                    refine (Later12_any pk qk pt qt pr qr pw qw _).mono ?_
                    rintro e wa ⟨rfl, hb⟩
                    rw [show laterN (pk, pt, pr, pw) (qk, qt, qr, qw) = true from HLT.out]
                    refine hK.out _ _ ?hs101 (fun hS1 => ?_)
                    case hs101 => exact bel_next hS0 hb
                    clear hK K hb
                    try simp only [Act.put, List.setIfInBounds_toArray, List.set_cons_zero, List.set_cons_succ]
                    refine wpAnyH_ready (rs := [5]) (by kernel_rfl) (by simp) ?_
                    refine AllReadyH.cons rfl (fun K hK => ?_) AllReadyH.nil
                    go_simp
                    refine (Later12_ref pk qk pt qt pr qr pw qw _).mono ?_
                    rintro e wd ⟨rfl, hb⟩
                    rw [show laterN (pk, pt, pr, pw) (qk, qt, qr, qw) = true from HLT.out]
                    refine hK.out _ _ ?hs102 (fun hS2 => ?_)
                    case hs102 => exact bel_next hS1 hb
                    clear hK K hb
                    try simp only [Act.put, List.setIfInBounds_toArray, List.set_cons_zero, List.set_cons_succ]
                    refine takeInH 6 47 ?v103 rfl rfl (by kernel_rfl) (by kernel_rfl) (by kernel_rfl) (fun _ _ _ h => h) (by kernel_rfl) hS2 ?hy103 ?_
                    case hy103 => (intro W hW; clear hW; go_simp; try rfl)
                    simp only [Act.put, List.setIfInBounds_toArray, List.set_cons_zero, List.set_cons_succ]
                    refine takeInH 7 48 ?v104 rfl rfl (by kernel_rfl) (by kernel_rfl) (by kernel_rfl) (fun _ _ _ h => h) (by kernel_rfl) hS2 ?hy104 ?_
                    case hy104 => (intro W hW; clear hW; go_simp; try rfl)
                    simp only [Act.put, List.setIfInBounds_toArray, List.set_cons_zero, List.set_cons_succ]
                    refine takeInH 8 49 ?v105 rfl rfl (by kernel_rfl) (by kernel_rfl) (by kernel_rfl) (fun _ _ _ h => h) (by kernel_rfl) hS2 ?hy105 ?_
                    case hy105 => (intro W hW; clear hW; go_simp; try rfl)
                    simp only [Act.put, List.setIfInBounds_toArray, List.set_cons_zero, List.set_cons_succ]
                    refine takeInH 9 50 ?v106 rfl rfl (by kernel_rfl) (by kernel_rfl) (by kernel_rfl) (fun _ _ _ h => h) (by kernel_rfl) hS2 ?hy106 ?_
                    case hy106 => (intro W hW; clear hW; go_simp; try rfl)
                    simp only [Act.put, List.setIfInBounds_toArray, List.set_cons_zero, List.set_cons_succ]
                    refine takeInH 11 52 ?v107 rfl rfl (by kernel_rfl) (by kernel_rfl) (by kernel_rfl) (fun _ _ _ h => h) (by kernel_rfl) hS2 ?hy107 ?_
                    case hy107 => (intro W hW; clear hW; go_simp; try rfl)
                    simp only [Act.put, List.setIfInBounds_toArray, List.set_cons_zero, List.set_cons_succ]
                    refine takeInH 12 53 ?v108 rfl rfl (by kernel_rfl) (by kernel_rfl) (by kernel_rfl) (fun _ _ _ h => h) (by kernel_rfl) hS2 ?hy108 ?_
                    case hy108 => (intro W hW; clear hW; go_simp; try rfl)
                    simp only [Act.put, List.setIfInBounds_toArray, List.set_cons_zero, List.set_cons_succ]
                    refine wpAnyH_ready (rs := [10]) (by kernel_rfl) (by simp) ?_
                    refine AllReadyH.cons rfl (fun K hK => ?_) AllReadyH.nil
                    go_simp
                    refine (Same12_any a n cpa s b m cpb t _ (HVA.out.below (bel_next BB.out hS2)) (HVB.out.below (bel_next BB.out hS2))).mono ?_
                    rintro e we ⟨rfl, hb⟩
                    rw [HQT.out]
                    refine hK.out _ _ ?hs109 (fun hS3 => ?_)
                    case hs109 => exact bel_next hS2 hb
                    clear hK K hb
                    try simp only [Act.put, List.setIfInBounds_toArray, List.set_cons_zero, List.set_cons_succ]
                    refine wpAnyH_ready (rs := [13]) (by kernel_rfl) (by simp) ?_
                    refine AllReadyH.cons rfl (fun K hK => ?_) AllReadyH.nil
                    go_simp
                    refine (Same12_ref a n cpa s b m cpb t _ (HVA.out.below (bel_next BB.out hS3)) (HVB.out.below (bel_next BB.out hS3))).mono ?_
                    rintro e wf ⟨rfl, hb⟩
                    rw [HQT.out]
                    refine hK.out _ _ ?hs110 (fun hS4 => ?_)
                    case hs110 => exact bel_next hS3 hb
                    clear hK K hb
                    try simp only [Act.put, List.setIfInBounds_toArray, List.set_cons_zero, List.set_cons_succ]
                    refine takeInH 14 55 ?v111 rfl rfl (by kernel_rfl) (by kernel_rfl) (by kernel_rfl) (fun _ _ _ h => h) (by kernel_rfl) hS4 ?hy111 ?_
                    case hy111 => (intro W hW; clear hW; go_simp; try rfl)
                    simp only [Act.put, List.setIfInBounds_toArray, List.set_cons_zero, List.set_cons_succ]
                    refine takeInH 15 56 ?v112 rfl rfl (by kernel_rfl) (by kernel_rfl) (by kernel_rfl) (fun _ _ _ h => h) (by kernel_rfl) hS4 ?hy112 ?_
                    case hy112 => (intro W hW; clear hW; go_simp; try rfl)
                    simp only [Act.put, List.setIfInBounds_toArray, List.set_cons_zero, List.set_cons_succ]
                    refine wpAnyH_done (by kernel_rfl) ?_ _
                    go_wp2
                    go_meet
                    case rel => exact ⟨rfl, (show Hid _ from bel_next BB.out hS4)⟩
                  · have HQT := hide hst
                    clear hst
                    refine wp_region_held_drew (S := fun W => Below wy.heap.size wy W) (by kernel_rfl) ((Below.refl _ wy).drew) (fun hS0 => ?_)
                    refine takeInH 0 41 ?v113 rfl rfl (by kernel_rfl) (by kernel_rfl) (by kernel_rfl) (fun _ _ _ h => h) (by kernel_rfl) hS0 ?hy113 ?_
                    case hy113 => (intro W hW; have e0 := bcell hW f0; have e1 := bcell hW f1; have e2 := bcell hW f2; have e3 := bcell hW f3; have e4 := bcell hW h0; have e5 := bcell hW h1; have e6 := bcell hW h2; have e7 := bcell hW h3; clear hW; go_simp; try rfl)
                    simp only [Act.put, List.setIfInBounds_toArray, List.set_cons_zero, List.set_cons_succ]
                    refine takeInH 1 42 ?v114 rfl rfl (by kernel_rfl) (by kernel_rfl) (by kernel_rfl) (fun _ _ _ h => h) (by kernel_rfl) hS0 ?hy114 ?_
                    case hy114 => (intro W hW; have e0 := bcell hW f0; have e1 := bcell hW f1; have e2 := bcell hW f2; have e3 := bcell hW f3; have e4 := bcell hW h0; have e5 := bcell hW h1; have e6 := bcell hW h2; have e7 := bcell hW h3; clear hW; go_simp; try rfl)
                    simp only [Act.put, List.setIfInBounds_toArray, List.set_cons_zero, List.set_cons_succ]
                    refine takeInH 3 44 ?v115 rfl rfl (by kernel_rfl) (by kernel_rfl) (by kernel_rfl) (fun _ _ _ h => h) (by kernel_rfl) hS0 ?hy115 ?_
                    case hy115 => (intro W hW; have e0 := bcell hW f0; have e1 := bcell hW f1; have e2 := bcell hW f2; have e3 := bcell hW f3; have e4 := bcell hW h0; have e5 := bcell hW h1; have e6 := bcell hW h2; have e7 := bcell hW h3; clear hW; go_simp; try rfl)
                    simp only [Act.put, List.setIfInBounds_toArray, List.set_cons_zero, List.set_cons_succ]
                    refine takeInH 4 45 ?v116 rfl rfl (by kernel_rfl) (by kernel_rfl) (by kernel_rfl) (fun _ _ _ h => h) (by kernel_rfl) hS0 ?hy116 ?_
                    case hy116 => (intro W hW; have e0 := bcell hW f0; have e1 := bcell hW f1; have e2 := bcell hW f2; have e3 := bcell hW f3; have e4 := bcell hW h0; have e5 := bcell hW h1; have e6 := bcell hW h2; have e7 := bcell hW h3; clear hW; go_simp; try rfl)
                    simp only [Act.put, List.setIfInBounds_toArray, List.set_cons_zero, List.set_cons_succ]
                    refine wpAnyH_ready (rs := [2]) (by kernel_rfl) (by simp) ?_
                    refine AllReadyH.cons rfl (fun K hK => ?_) AllReadyH.nil
                    go_simp
                    refine (Later12_any pk qk pt qt pr qr pw qw _).mono ?_
                    rintro e wa ⟨rfl, hb⟩
                    rw [show laterN (pk, pt, pr, pw) (qk, qt, qr, qw) = true from HLT.out]
                    refine hK.out _ _ ?hs117 (fun hS1 => ?_)
                    case hs117 => exact bel_next hS0 hb
                    clear hK K hb
                    try simp only [Act.put, List.setIfInBounds_toArray, List.set_cons_zero, List.set_cons_succ]
                    refine wpAnyH_ready (rs := [5]) (by kernel_rfl) (by simp) ?_
                    refine AllReadyH.cons rfl (fun K hK => ?_) AllReadyH.nil
                    go_simp
                    refine (Later12_ref pk qk pt qt pr qr pw qw _).mono ?_
                    rintro e wd ⟨rfl, hb⟩
                    rw [show laterN (pk, pt, pr, pw) (qk, qt, qr, qw) = true from HLT.out]
                    refine hK.out _ _ ?hs118 (fun hS2 => ?_)
                    case hs118 => exact bel_next hS1 hb
                    clear hK K hb
                    try simp only [Act.put, List.setIfInBounds_toArray, List.set_cons_zero, List.set_cons_succ]
                    refine takeInH 6 47 ?v119 rfl rfl (by kernel_rfl) (by kernel_rfl) (by kernel_rfl) (fun _ _ _ h => h) (by kernel_rfl) hS2 ?hy119 ?_
                    case hy119 => (intro W hW; clear hW; go_simp; try rfl)
                    simp only [Act.put, List.setIfInBounds_toArray, List.set_cons_zero, List.set_cons_succ]
                    refine takeInH 7 48 ?v120 rfl rfl (by kernel_rfl) (by kernel_rfl) (by kernel_rfl) (fun _ _ _ h => h) (by kernel_rfl) hS2 ?hy120 ?_
                    case hy120 => (intro W hW; clear hW; go_simp; try rfl)
                    simp only [Act.put, List.setIfInBounds_toArray, List.set_cons_zero, List.set_cons_succ]
                    refine takeInH 8 49 ?v121 rfl rfl (by kernel_rfl) (by kernel_rfl) (by kernel_rfl) (fun _ _ _ h => h) (by kernel_rfl) hS2 ?hy121 ?_
                    case hy121 => (intro W hW; clear hW; go_simp; try rfl)
                    simp only [Act.put, List.setIfInBounds_toArray, List.set_cons_zero, List.set_cons_succ]
                    refine takeInH 9 50 ?v122 rfl rfl (by kernel_rfl) (by kernel_rfl) (by kernel_rfl) (fun _ _ _ h => h) (by kernel_rfl) hS2 ?hy122 ?_
                    case hy122 => (intro W hW; clear hW; go_simp; try rfl)
                    simp only [Act.put, List.setIfInBounds_toArray, List.set_cons_zero, List.set_cons_succ]
                    refine takeInH 11 52 ?v123 rfl rfl (by kernel_rfl) (by kernel_rfl) (by kernel_rfl) (fun _ _ _ h => h) (by kernel_rfl) hS2 ?hy123 ?_
                    case hy123 => (intro W hW; clear hW; go_simp; try rfl)
                    simp only [Act.put, List.setIfInBounds_toArray, List.set_cons_zero, List.set_cons_succ]
                    refine takeInH 12 53 ?v124 rfl rfl (by kernel_rfl) (by kernel_rfl) (by kernel_rfl) (fun _ _ _ h => h) (by kernel_rfl) hS2 ?hy124 ?_
                    case hy124 => (intro W hW; clear hW; go_simp; try rfl)
                    simp only [Act.put, List.setIfInBounds_toArray, List.set_cons_zero, List.set_cons_succ]
                    refine wpAnyH_ready (rs := [10]) (by kernel_rfl) (by simp) ?_
                    refine AllReadyH.cons rfl (fun K hK => ?_) AllReadyH.nil
                    go_simp
                    refine (Same12_any a n cpa s b m cpb t _ (HVA.out.below (bel_next BB.out hS2)) (HVB.out.below (bel_next BB.out hS2))).mono ?_
                    rintro e we ⟨rfl, hb⟩
                    rw [HQT.out]
                    refine hK.out _ _ ?hs125 (fun hS3 => ?_)
                    case hs125 => exact bel_next hS2 hb
                    clear hK K hb
                    try simp only [Act.put, List.setIfInBounds_toArray, List.set_cons_zero, List.set_cons_succ]
                    refine wpAnyH_ready (rs := [13]) (by kernel_rfl) (by simp) ?_
                    refine AllReadyH.cons rfl (fun K hK => ?_) AllReadyH.nil
                    go_simp
                    refine (Same12_ref a n cpa s b m cpb t _ (HVA.out.below (bel_next BB.out hS3)) (HVB.out.below (bel_next BB.out hS3))).mono ?_
                    rintro e wf ⟨rfl, hb⟩
                    rw [HQT.out]
                    refine hK.out _ _ ?hs126 (fun hS4 => ?_)
                    case hs126 => exact bel_next hS3 hb
                    clear hK K hb
                    try simp only [Act.put, List.setIfInBounds_toArray, List.set_cons_zero, List.set_cons_succ]
                    refine takeInH 14 55 ?v127 rfl rfl (by kernel_rfl) (by kernel_rfl) (by kernel_rfl) (fun _ _ _ h => h) (by kernel_rfl) hS4 ?hy127 ?_
                    case hy127 => (intro W hW; clear hW; go_simp; try rfl)
                    simp only [Act.put, List.setIfInBounds_toArray, List.set_cons_zero, List.set_cons_succ]
                    refine takeInH 15 56 ?v128 rfl rfl (by kernel_rfl) (by kernel_rfl) (by kernel_rfl) (fun _ _ _ h => h) (by kernel_rfl) hS4 ?hy128 ?_
                    case hy128 => (intro W hW; clear hW; go_simp; try rfl)
                    simp only [Act.put, List.setIfInBounds_toArray, List.set_cons_zero, List.set_cons_succ]
                    refine wpAnyH_done (by kernel_rfl) ?_ _
                    go_wp2
                    go_meet
                    case rel => exact ⟨rfl, (show Hid _ from bel_next BB.out hS4)⟩
              case rest =>
                clear f0 f1 f2 f3 h0 h1 h2 h3 BB
                obtain ⟨rfl, BB⟩ := hcut
                go_wp2_with (go_at_call 12; refine (May12_ref a n cpa s _ (HVA.out.below BB.out)).mono ?_; rintro e wy ⟨rfl, hb⟩; rw [HMS.out]; replace BB := hide (bel_next BB.out hb); (try replace HX7 := hide (HX7.out.below hb)); (try replace HX8 := hide (HX8.out.below hb)); (try replace HN2 := hide (HN2.out.below hb)); (try replace HN3 := hide (HN3.out.below hb)); (try replace HNW := hide (HNW.out.below hb)); clear hb; refine Stop.at ?_)
                unfold Stop
                go_wp2_with (go_at_call 12; refine (May12_ref b m cpb t _ (HVB.out.below BB.out)).mono ?_; rintro e wy ⟨rfl, hb⟩; rw [HMT.out]; replace BB := hide (bel_next BB.out hb); (try replace HX7 := hide (HX7.out.below hb)); (try replace HX8 := hide (HX8.out.below hb)); (try replace HN2 := hide (HN2.out.below hb)); (try replace HN3 := hide (HN3.out.below hb)); (try replace HNW := hide (HNW.out.below hb)); clear hb; refine Stop.at ?_)
                unfold Stop
                go_wp2_with (go_at_call 8; refine (awake12 _).mono ?_; rintro e wz ⟨rfl, hb⟩)
                go_ret
                exact ⟨rfl, bel_next BB.out hb⟩
            · have HMT := hide hmt
              have qs := (mayG_iff.1 hms).2.1
              have qt := (mayG_iff.1 hmt).2.1
              have h200 : (mrgN s t).length ≤ 4000 := by have h := mrgN_len s t; rw [HLS.out, HLT0.out] at h; omega
              have e2 : mrgN t s = mrgN s t := by rw [mrgN_turn qs qt, mrgN_sets qs qt]
              have HJ1 : Hid (∀ W, NN W a n s → NN W b m t → Calls Try.prog 17 #[.slice a n cpa, .slice b m cpb] W fun e w' => ∃ p cp, e = .returned (.tuple #[.slice p (mrgN s t).length cp, .int .i64 0]) ∧ NN w' p (mrgN s t).length (mrgN s t) ∧ CP p (mrgN s t).length cp ∧ Below W.heap.size W w') := fun W g1 g2 => Join12_good a n cpa s b m cpb t W g1 g2 HCA.out HCB.out hms hmt h200
              have HJ2 : Hid (∀ W, NN W b m t → NN W a n s → Calls Try.prog 17 #[.slice b m cpb, .slice a n cpa] W fun e w' => ∃ p cp, e = .returned (.tuple #[.slice p (mrgN s t).length cp, .int .i64 0]) ∧ NN w' p (mrgN s t).length (mrgN s t) ∧ CP p (mrgN s t).length cp ∧ Below W.heap.size W w') := fun W g1 g2 => by
                have q := Join12_good b m cpb t a n cpa s W g1 g2 HCB.out HCA.out hmt hms (by rw [e2]; exact h200)
                rw [e2] at q
                exact q
              obtain ⟨R, hR⟩ : ∃ R, mrgN s t = R := ⟨_, rfl⟩
              have HRS := hide hR
              rw [hR] at HJ1 HJ2
              clear hms hmt qs qt h200 e2 hR
              generalize R.length = nR at *
              go_upto_region 5 with (go_at_call 17; refine (HJ1.out _ (HVA.out.below BB.out) (HVB.out.below BB.out)).mono ?_; rintro e wy ⟨p2, c2, rfl, hn2, hc2, hb⟩; replace BB := hide (bel_next BB.out hb); (try replace HX7 := hide (HX7.out.below hb)); (try replace HX8 := hide (HX8.out.below hb)); (try replace HN2 := hide (HN2.out.below hb)); (try replace HN3 := hide (HN3.out.below hb)); (try replace HNW := hide (HNW.out.below hb)); have HN2 := hide hn2; clear hn2 hc2 hb)
              have f0 := HX7.out.cell 0 _ rfl
              have h0 := HX8.out.cell 0 _ rfl
              have f1 := HX7.out.cell 1 _ rfl
              have h1 := HX8.out.cell 1 _ rfl
              have f2 := HX7.out.cell 2 _ rfl
              have h2 := HX8.out.cell 2 _ rfl
              have f3 := HX7.out.cell 3 _ rfl
              have h3 := HX8.out.cell 3 _ rfl
              go_cut [56] from 41 to 56 (fun v wx => v = .bool false ∧ Hid (Below w.heap.size w wx) ∧ Hid (NN wx p2 nR R))
              case first =>
                rcases hlt : laterN (pk, pt, pr, pw) (qk, qt, qr, qw) with _ | _
                · have HLT := hide hlt
                  clear hlt
                  rcases hst : decide (s = t) with _ | _
                  · have HQT := hide hst
                    clear hst
                    refine wp_region_held_drew (S := fun W => Below wy.heap.size wy W) (by kernel_rfl) ((Below.refl _ wy).drew) (fun hS0 => ?_)
                    refine takeInH 0 41 ?v129 rfl rfl (by kernel_rfl) (by kernel_rfl) (by kernel_rfl) (fun _ _ _ h => h) (by kernel_rfl) hS0 ?hy129 ?_
                    case hy129 => (intro W hW; have e0 := bcell hW f0; have e1 := bcell hW f1; have e2 := bcell hW f2; have e3 := bcell hW f3; have e4 := bcell hW h0; have e5 := bcell hW h1; have e6 := bcell hW h2; have e7 := bcell hW h3; clear hW; go_simp; try rfl)
                    simp only [Act.put, List.setIfInBounds_toArray, List.set_cons_zero, List.set_cons_succ]
                    refine takeInH 1 42 ?v130 rfl rfl (by kernel_rfl) (by kernel_rfl) (by kernel_rfl) (fun _ _ _ h => h) (by kernel_rfl) hS0 ?hy130 ?_
                    case hy130 => (intro W hW; have e0 := bcell hW f0; have e1 := bcell hW f1; have e2 := bcell hW f2; have e3 := bcell hW f3; have e4 := bcell hW h0; have e5 := bcell hW h1; have e6 := bcell hW h2; have e7 := bcell hW h3; clear hW; go_simp; try rfl)
                    simp only [Act.put, List.setIfInBounds_toArray, List.set_cons_zero, List.set_cons_succ]
                    refine takeInH 3 44 ?v131 rfl rfl (by kernel_rfl) (by kernel_rfl) (by kernel_rfl) (fun _ _ _ h => h) (by kernel_rfl) hS0 ?hy131 ?_
                    case hy131 => (intro W hW; have e0 := bcell hW f0; have e1 := bcell hW f1; have e2 := bcell hW f2; have e3 := bcell hW f3; have e4 := bcell hW h0; have e5 := bcell hW h1; have e6 := bcell hW h2; have e7 := bcell hW h3; clear hW; go_simp; try rfl)
                    simp only [Act.put, List.setIfInBounds_toArray, List.set_cons_zero, List.set_cons_succ]
                    refine takeInH 4 45 ?v132 rfl rfl (by kernel_rfl) (by kernel_rfl) (by kernel_rfl) (fun _ _ _ h => h) (by kernel_rfl) hS0 ?hy132 ?_
                    case hy132 => (intro W hW; have e0 := bcell hW f0; have e1 := bcell hW f1; have e2 := bcell hW f2; have e3 := bcell hW f3; have e4 := bcell hW h0; have e5 := bcell hW h1; have e6 := bcell hW h2; have e7 := bcell hW h3; clear hW; go_simp; try rfl)
                    simp only [Act.put, List.setIfInBounds_toArray, List.set_cons_zero, List.set_cons_succ]
                    refine wpAnyH_ready (rs := [2]) (by kernel_rfl) (by simp) ?_
                    refine AllReadyH.cons rfl (fun K hK => ?_) AllReadyH.nil
                    go_simp
                    refine (Later12_any pk qk pt qt pr qr pw qw _).mono ?_
                    rintro e wa ⟨rfl, hb⟩
                    rw [show laterN (pk, pt, pr, pw) (qk, qt, qr, qw) = false from HLT.out]
                    refine hK.out _ _ ?hs133 (fun hS1 => ?_)
                    case hs133 => exact bel_next hS0 hb
                    clear hK K hb
                    try simp only [Act.put, List.setIfInBounds_toArray, List.set_cons_zero, List.set_cons_succ]
                    refine wpAnyH_ready (rs := [5]) (by kernel_rfl) (by simp) ?_
                    refine AllReadyH.cons rfl (fun K hK => ?_) AllReadyH.nil
                    go_simp
                    refine (Later12_ref pk qk pt qt pr qr pw qw _).mono ?_
                    rintro e wd ⟨rfl, hb⟩
                    rw [show laterN (pk, pt, pr, pw) (qk, qt, qr, qw) = false from HLT.out]
                    refine hK.out _ _ ?hs134 (fun hS2 => ?_)
                    case hs134 => exact bel_next hS1 hb
                    clear hK K hb
                    try simp only [Act.put, List.setIfInBounds_toArray, List.set_cons_zero, List.set_cons_succ]
                    refine takeInH 6 47 ?v135 rfl rfl (by kernel_rfl) (by kernel_rfl) (by kernel_rfl) (fun _ _ _ h => h) (by kernel_rfl) hS2 ?hy135 ?_
                    case hy135 => (intro W hW; clear hW; go_simp; try rfl)
                    simp only [Act.put, List.setIfInBounds_toArray, List.set_cons_zero, List.set_cons_succ]
                    refine takeInH 7 48 ?v136 rfl rfl (by kernel_rfl) (by kernel_rfl) (by kernel_rfl) (fun _ _ _ h => h) (by kernel_rfl) hS2 ?hy136 ?_
                    case hy136 => (intro W hW; clear hW; go_simp; try rfl)
                    simp only [Act.put, List.setIfInBounds_toArray, List.set_cons_zero, List.set_cons_succ]
                    refine takeInH 8 49 ?v137 rfl rfl (by kernel_rfl) (by kernel_rfl) (by kernel_rfl) (fun _ _ _ h => h) (by kernel_rfl) hS2 ?hy137 ?_
                    case hy137 => (intro W hW; clear hW; go_simp; try rfl)
                    simp only [Act.put, List.setIfInBounds_toArray, List.set_cons_zero, List.set_cons_succ]
                    refine takeInH 9 50 ?v138 rfl rfl (by kernel_rfl) (by kernel_rfl) (by kernel_rfl) (fun _ _ _ h => h) (by kernel_rfl) hS2 ?hy138 ?_
                    case hy138 => (intro W hW; clear hW; go_simp; try rfl)
                    simp only [Act.put, List.setIfInBounds_toArray, List.set_cons_zero, List.set_cons_succ]
                    refine takeInH 11 52 ?v139 rfl rfl (by kernel_rfl) (by kernel_rfl) (by kernel_rfl) (fun _ _ _ h => h) (by kernel_rfl) hS2 ?hy139 ?_
                    case hy139 => (intro W hW; clear hW; go_simp; try rfl)
                    simp only [Act.put, List.setIfInBounds_toArray, List.set_cons_zero, List.set_cons_succ]
                    refine takeInH 12 53 ?v140 rfl rfl (by kernel_rfl) (by kernel_rfl) (by kernel_rfl) (fun _ _ _ h => h) (by kernel_rfl) hS2 ?hy140 ?_
                    case hy140 => (intro W hW; clear hW; go_simp; try rfl)
                    simp only [Act.put, List.setIfInBounds_toArray, List.set_cons_zero, List.set_cons_succ]
                    refine wpAnyH_ready (rs := [10]) (by kernel_rfl) (by simp) ?_
                    refine AllReadyH.cons rfl (fun K hK => ?_) AllReadyH.nil
                    go_simp
                    refine (Same12_any a n cpa s b m cpb t _ (HVA.out.below (bel_next BB.out hS2)) (HVB.out.below (bel_next BB.out hS2))).mono ?_
                    rintro e we ⟨rfl, hb⟩
                    rw [HQT.out]
                    refine hK.out _ _ ?hs141 (fun hS3 => ?_)
                    case hs141 => exact bel_next hS2 hb
                    clear hK K hb
                    try simp only [Act.put, List.setIfInBounds_toArray, List.set_cons_zero, List.set_cons_succ]
                    refine wpAnyH_ready (rs := [13]) (by kernel_rfl) (by simp) ?_
                    refine AllReadyH.cons rfl (fun K hK => ?_) AllReadyH.nil
                    go_simp
                    refine (Same12_ref a n cpa s b m cpb t _ (HVA.out.below (bel_next BB.out hS3)) (HVB.out.below (bel_next BB.out hS3))).mono ?_
                    rintro e wf ⟨rfl, hb⟩
                    rw [HQT.out]
                    refine hK.out _ _ ?hs142 (fun hS4 => ?_)
                    case hs142 => exact bel_next hS3 hb
                    clear hK K hb
                    try simp only [Act.put, List.setIfInBounds_toArray, List.set_cons_zero, List.set_cons_succ]
                    refine takeInH 14 55 ?v143 rfl rfl (by kernel_rfl) (by kernel_rfl) (by kernel_rfl) (fun _ _ _ h => h) (by kernel_rfl) hS4 ?hy143 ?_
                    case hy143 => (intro W hW; clear hW; go_simp; try rfl)
                    simp only [Act.put, List.setIfInBounds_toArray, List.set_cons_zero, List.set_cons_succ]
                    refine takeInH 15 56 ?v144 rfl rfl (by kernel_rfl) (by kernel_rfl) (by kernel_rfl) (fun _ _ _ h => h) (by kernel_rfl) hS4 ?hy144 ?_
                    case hy144 => (intro W hW; clear hW; go_simp; try rfl)
                    simp only [Act.put, List.setIfInBounds_toArray, List.set_cons_zero, List.set_cons_succ]
                    refine wpAnyH_done (by kernel_rfl) ?_ _
                    go_wp2
                    go_meet
                    case rel => exact ⟨rfl, (show Hid _ from bel_next BB.out hS4), (show Hid _ from HN2.out.below hS4)⟩
                  · have HQT := hide hst
                    clear hst
                    refine wp_region_held_drew (S := fun W => Below wy.heap.size wy W) (by kernel_rfl) ((Below.refl _ wy).drew) (fun hS0 => ?_)
                    refine takeInH 0 41 ?v145 rfl rfl (by kernel_rfl) (by kernel_rfl) (by kernel_rfl) (fun _ _ _ h => h) (by kernel_rfl) hS0 ?hy145 ?_
                    case hy145 => (intro W hW; have e0 := bcell hW f0; have e1 := bcell hW f1; have e2 := bcell hW f2; have e3 := bcell hW f3; have e4 := bcell hW h0; have e5 := bcell hW h1; have e6 := bcell hW h2; have e7 := bcell hW h3; clear hW; go_simp; try rfl)
                    simp only [Act.put, List.setIfInBounds_toArray, List.set_cons_zero, List.set_cons_succ]
                    refine takeInH 1 42 ?v146 rfl rfl (by kernel_rfl) (by kernel_rfl) (by kernel_rfl) (fun _ _ _ h => h) (by kernel_rfl) hS0 ?hy146 ?_
                    case hy146 => (intro W hW; have e0 := bcell hW f0; have e1 := bcell hW f1; have e2 := bcell hW f2; have e3 := bcell hW f3; have e4 := bcell hW h0; have e5 := bcell hW h1; have e6 := bcell hW h2; have e7 := bcell hW h3; clear hW; go_simp; try rfl)
                    simp only [Act.put, List.setIfInBounds_toArray, List.set_cons_zero, List.set_cons_succ]
                    refine takeInH 3 44 ?v147 rfl rfl (by kernel_rfl) (by kernel_rfl) (by kernel_rfl) (fun _ _ _ h => h) (by kernel_rfl) hS0 ?hy147 ?_
                    case hy147 => (intro W hW; have e0 := bcell hW f0; have e1 := bcell hW f1; have e2 := bcell hW f2; have e3 := bcell hW f3; have e4 := bcell hW h0; have e5 := bcell hW h1; have e6 := bcell hW h2; have e7 := bcell hW h3; clear hW; go_simp; try rfl)
                    simp only [Act.put, List.setIfInBounds_toArray, List.set_cons_zero, List.set_cons_succ]
                    refine takeInH 4 45 ?v148 rfl rfl (by kernel_rfl) (by kernel_rfl) (by kernel_rfl) (fun _ _ _ h => h) (by kernel_rfl) hS0 ?hy148 ?_
                    case hy148 => (intro W hW; have e0 := bcell hW f0; have e1 := bcell hW f1; have e2 := bcell hW f2; have e3 := bcell hW f3; have e4 := bcell hW h0; have e5 := bcell hW h1; have e6 := bcell hW h2; have e7 := bcell hW h3; clear hW; go_simp; try rfl)
                    simp only [Act.put, List.setIfInBounds_toArray, List.set_cons_zero, List.set_cons_succ]
                    refine wpAnyH_ready (rs := [2]) (by kernel_rfl) (by simp) ?_
                    refine AllReadyH.cons rfl (fun K hK => ?_) AllReadyH.nil
                    go_simp
                    refine (Later12_any pk qk pt qt pr qr pw qw _).mono ?_
                    rintro e wa ⟨rfl, hb⟩
                    rw [show laterN (pk, pt, pr, pw) (qk, qt, qr, qw) = false from HLT.out]
                    refine hK.out _ _ ?hs149 (fun hS1 => ?_)
                    case hs149 => exact bel_next hS0 hb
                    clear hK K hb
                    try simp only [Act.put, List.setIfInBounds_toArray, List.set_cons_zero, List.set_cons_succ]
                    refine wpAnyH_ready (rs := [5]) (by kernel_rfl) (by simp) ?_
                    refine AllReadyH.cons rfl (fun K hK => ?_) AllReadyH.nil
                    go_simp
                    refine (Later12_ref pk qk pt qt pr qr pw qw _).mono ?_
                    rintro e wd ⟨rfl, hb⟩
                    rw [show laterN (pk, pt, pr, pw) (qk, qt, qr, qw) = false from HLT.out]
                    refine hK.out _ _ ?hs150 (fun hS2 => ?_)
                    case hs150 => exact bel_next hS1 hb
                    clear hK K hb
                    try simp only [Act.put, List.setIfInBounds_toArray, List.set_cons_zero, List.set_cons_succ]
                    refine takeInH 6 47 ?v151 rfl rfl (by kernel_rfl) (by kernel_rfl) (by kernel_rfl) (fun _ _ _ h => h) (by kernel_rfl) hS2 ?hy151 ?_
                    case hy151 => (intro W hW; clear hW; go_simp; try rfl)
                    simp only [Act.put, List.setIfInBounds_toArray, List.set_cons_zero, List.set_cons_succ]
                    refine takeInH 7 48 ?v152 rfl rfl (by kernel_rfl) (by kernel_rfl) (by kernel_rfl) (fun _ _ _ h => h) (by kernel_rfl) hS2 ?hy152 ?_
                    case hy152 => (intro W hW; clear hW; go_simp; try rfl)
                    simp only [Act.put, List.setIfInBounds_toArray, List.set_cons_zero, List.set_cons_succ]
                    refine takeInH 8 49 ?v153 rfl rfl (by kernel_rfl) (by kernel_rfl) (by kernel_rfl) (fun _ _ _ h => h) (by kernel_rfl) hS2 ?hy153 ?_
                    case hy153 => (intro W hW; clear hW; go_simp; try rfl)
                    simp only [Act.put, List.setIfInBounds_toArray, List.set_cons_zero, List.set_cons_succ]
                    refine takeInH 9 50 ?v154 rfl rfl (by kernel_rfl) (by kernel_rfl) (by kernel_rfl) (fun _ _ _ h => h) (by kernel_rfl) hS2 ?hy154 ?_
                    case hy154 => (intro W hW; clear hW; go_simp; try rfl)
                    simp only [Act.put, List.setIfInBounds_toArray, List.set_cons_zero, List.set_cons_succ]
                    refine takeInH 11 52 ?v155 rfl rfl (by kernel_rfl) (by kernel_rfl) (by kernel_rfl) (fun _ _ _ h => h) (by kernel_rfl) hS2 ?hy155 ?_
                    case hy155 => (intro W hW; clear hW; go_simp; try rfl)
                    simp only [Act.put, List.setIfInBounds_toArray, List.set_cons_zero, List.set_cons_succ]
                    refine takeInH 12 53 ?v156 rfl rfl (by kernel_rfl) (by kernel_rfl) (by kernel_rfl) (fun _ _ _ h => h) (by kernel_rfl) hS2 ?hy156 ?_
                    case hy156 => (intro W hW; clear hW; go_simp; try rfl)
                    simp only [Act.put, List.setIfInBounds_toArray, List.set_cons_zero, List.set_cons_succ]
                    refine wpAnyH_ready (rs := [10]) (by kernel_rfl) (by simp) ?_
                    refine AllReadyH.cons rfl (fun K hK => ?_) AllReadyH.nil
                    go_simp
                    refine (Same12_any a n cpa s b m cpb t _ (HVA.out.below (bel_next BB.out hS2)) (HVB.out.below (bel_next BB.out hS2))).mono ?_
                    rintro e we ⟨rfl, hb⟩
                    rw [HQT.out]
                    refine hK.out _ _ ?hs157 (fun hS3 => ?_)
                    case hs157 => exact bel_next hS2 hb
                    clear hK K hb
                    try simp only [Act.put, List.setIfInBounds_toArray, List.set_cons_zero, List.set_cons_succ]
                    refine wpAnyH_ready (rs := [13]) (by kernel_rfl) (by simp) ?_
                    refine AllReadyH.cons rfl (fun K hK => ?_) AllReadyH.nil
                    go_simp
                    refine (Same12_ref a n cpa s b m cpb t _ (HVA.out.below (bel_next BB.out hS3)) (HVB.out.below (bel_next BB.out hS3))).mono ?_
                    rintro e wf ⟨rfl, hb⟩
                    rw [HQT.out]
                    refine hK.out _ _ ?hs158 (fun hS4 => ?_)
                    case hs158 => exact bel_next hS3 hb
                    clear hK K hb
                    try simp only [Act.put, List.setIfInBounds_toArray, List.set_cons_zero, List.set_cons_succ]
                    refine takeInH 14 55 ?v159 rfl rfl (by kernel_rfl) (by kernel_rfl) (by kernel_rfl) (fun _ _ _ h => h) (by kernel_rfl) hS4 ?hy159 ?_
                    case hy159 => (intro W hW; clear hW; go_simp; try rfl)
                    simp only [Act.put, List.setIfInBounds_toArray, List.set_cons_zero, List.set_cons_succ]
                    refine takeInH 15 56 ?v160 rfl rfl (by kernel_rfl) (by kernel_rfl) (by kernel_rfl) (fun _ _ _ h => h) (by kernel_rfl) hS4 ?hy160 ?_
                    case hy160 => (intro W hW; clear hW; go_simp; try rfl)
                    simp only [Act.put, List.setIfInBounds_toArray, List.set_cons_zero, List.set_cons_succ]
                    refine wpAnyH_done (by kernel_rfl) ?_ _
                    go_wp2
                    go_meet
                    case rel => exact ⟨rfl, (show Hid _ from bel_next BB.out hS4), (show Hid _ from HN2.out.below hS4)⟩
                · have HLT := hide hlt
                  clear hlt
                  rcases hst : decide (s = t) with _ | _
                  · have HQT := hide hst
                    clear hst
                    refine wp_region_held_drew (S := fun W => Below wy.heap.size wy W) (by kernel_rfl) ((Below.refl _ wy).drew) (fun hS0 => ?_)
                    refine takeInH 0 41 ?v161 rfl rfl (by kernel_rfl) (by kernel_rfl) (by kernel_rfl) (fun _ _ _ h => h) (by kernel_rfl) hS0 ?hy161 ?_
                    case hy161 => (intro W hW; have e0 := bcell hW f0; have e1 := bcell hW f1; have e2 := bcell hW f2; have e3 := bcell hW f3; have e4 := bcell hW h0; have e5 := bcell hW h1; have e6 := bcell hW h2; have e7 := bcell hW h3; clear hW; go_simp; try rfl)
                    simp only [Act.put, List.setIfInBounds_toArray, List.set_cons_zero, List.set_cons_succ]
                    refine takeInH 1 42 ?v162 rfl rfl (by kernel_rfl) (by kernel_rfl) (by kernel_rfl) (fun _ _ _ h => h) (by kernel_rfl) hS0 ?hy162 ?_
                    case hy162 => (intro W hW; have e0 := bcell hW f0; have e1 := bcell hW f1; have e2 := bcell hW f2; have e3 := bcell hW f3; have e4 := bcell hW h0; have e5 := bcell hW h1; have e6 := bcell hW h2; have e7 := bcell hW h3; clear hW; go_simp; try rfl)
                    simp only [Act.put, List.setIfInBounds_toArray, List.set_cons_zero, List.set_cons_succ]
                    refine takeInH 3 44 ?v163 rfl rfl (by kernel_rfl) (by kernel_rfl) (by kernel_rfl) (fun _ _ _ h => h) (by kernel_rfl) hS0 ?hy163 ?_
                    case hy163 => (intro W hW; have e0 := bcell hW f0; have e1 := bcell hW f1; have e2 := bcell hW f2; have e3 := bcell hW f3; have e4 := bcell hW h0; have e5 := bcell hW h1; have e6 := bcell hW h2; have e7 := bcell hW h3; clear hW; go_simp; try rfl)
                    simp only [Act.put, List.setIfInBounds_toArray, List.set_cons_zero, List.set_cons_succ]
                    refine takeInH 4 45 ?v164 rfl rfl (by kernel_rfl) (by kernel_rfl) (by kernel_rfl) (fun _ _ _ h => h) (by kernel_rfl) hS0 ?hy164 ?_
                    case hy164 => (intro W hW; have e0 := bcell hW f0; have e1 := bcell hW f1; have e2 := bcell hW f2; have e3 := bcell hW f3; have e4 := bcell hW h0; have e5 := bcell hW h1; have e6 := bcell hW h2; have e7 := bcell hW h3; clear hW; go_simp; try rfl)
                    simp only [Act.put, List.setIfInBounds_toArray, List.set_cons_zero, List.set_cons_succ]
                    refine wpAnyH_ready (rs := [2]) (by kernel_rfl) (by simp) ?_
                    refine AllReadyH.cons rfl (fun K hK => ?_) AllReadyH.nil
                    go_simp
                    refine (Later12_any pk qk pt qt pr qr pw qw _).mono ?_
                    rintro e wa ⟨rfl, hb⟩
                    rw [show laterN (pk, pt, pr, pw) (qk, qt, qr, qw) = true from HLT.out]
                    refine hK.out _ _ ?hs165 (fun hS1 => ?_)
                    case hs165 => exact bel_next hS0 hb
                    clear hK K hb
                    try simp only [Act.put, List.setIfInBounds_toArray, List.set_cons_zero, List.set_cons_succ]
                    refine wpAnyH_ready (rs := [5]) (by kernel_rfl) (by simp) ?_
                    refine AllReadyH.cons rfl (fun K hK => ?_) AllReadyH.nil
                    go_simp
                    refine (Later12_ref pk qk pt qt pr qr pw qw _).mono ?_
                    rintro e wd ⟨rfl, hb⟩
                    rw [show laterN (pk, pt, pr, pw) (qk, qt, qr, qw) = true from HLT.out]
                    refine hK.out _ _ ?hs166 (fun hS2 => ?_)
                    case hs166 => exact bel_next hS1 hb
                    clear hK K hb
                    try simp only [Act.put, List.setIfInBounds_toArray, List.set_cons_zero, List.set_cons_succ]
                    refine takeInH 6 47 ?v167 rfl rfl (by kernel_rfl) (by kernel_rfl) (by kernel_rfl) (fun _ _ _ h => h) (by kernel_rfl) hS2 ?hy167 ?_
                    case hy167 => (intro W hW; clear hW; go_simp; try rfl)
                    simp only [Act.put, List.setIfInBounds_toArray, List.set_cons_zero, List.set_cons_succ]
                    refine takeInH 7 48 ?v168 rfl rfl (by kernel_rfl) (by kernel_rfl) (by kernel_rfl) (fun _ _ _ h => h) (by kernel_rfl) hS2 ?hy168 ?_
                    case hy168 => (intro W hW; clear hW; go_simp; try rfl)
                    simp only [Act.put, List.setIfInBounds_toArray, List.set_cons_zero, List.set_cons_succ]
                    refine takeInH 8 49 ?v169 rfl rfl (by kernel_rfl) (by kernel_rfl) (by kernel_rfl) (fun _ _ _ h => h) (by kernel_rfl) hS2 ?hy169 ?_
                    case hy169 => (intro W hW; clear hW; go_simp; try rfl)
                    simp only [Act.put, List.setIfInBounds_toArray, List.set_cons_zero, List.set_cons_succ]
                    refine takeInH 9 50 ?v170 rfl rfl (by kernel_rfl) (by kernel_rfl) (by kernel_rfl) (fun _ _ _ h => h) (by kernel_rfl) hS2 ?hy170 ?_
                    case hy170 => (intro W hW; clear hW; go_simp; try rfl)
                    simp only [Act.put, List.setIfInBounds_toArray, List.set_cons_zero, List.set_cons_succ]
                    refine takeInH 11 52 ?v171 rfl rfl (by kernel_rfl) (by kernel_rfl) (by kernel_rfl) (fun _ _ _ h => h) (by kernel_rfl) hS2 ?hy171 ?_
                    case hy171 => (intro W hW; clear hW; go_simp; try rfl)
                    simp only [Act.put, List.setIfInBounds_toArray, List.set_cons_zero, List.set_cons_succ]
                    refine takeInH 12 53 ?v172 rfl rfl (by kernel_rfl) (by kernel_rfl) (by kernel_rfl) (fun _ _ _ h => h) (by kernel_rfl) hS2 ?hy172 ?_
                    case hy172 => (intro W hW; clear hW; go_simp; try rfl)
                    simp only [Act.put, List.setIfInBounds_toArray, List.set_cons_zero, List.set_cons_succ]
                    refine wpAnyH_ready (rs := [10]) (by kernel_rfl) (by simp) ?_
                    refine AllReadyH.cons rfl (fun K hK => ?_) AllReadyH.nil
                    go_simp
                    refine (Same12_any a n cpa s b m cpb t _ (HVA.out.below (bel_next BB.out hS2)) (HVB.out.below (bel_next BB.out hS2))).mono ?_
                    rintro e we ⟨rfl, hb⟩
                    rw [HQT.out]
                    refine hK.out _ _ ?hs173 (fun hS3 => ?_)
                    case hs173 => exact bel_next hS2 hb
                    clear hK K hb
                    try simp only [Act.put, List.setIfInBounds_toArray, List.set_cons_zero, List.set_cons_succ]
                    refine wpAnyH_ready (rs := [13]) (by kernel_rfl) (by simp) ?_
                    refine AllReadyH.cons rfl (fun K hK => ?_) AllReadyH.nil
                    go_simp
                    refine (Same12_ref a n cpa s b m cpb t _ (HVA.out.below (bel_next BB.out hS3)) (HVB.out.below (bel_next BB.out hS3))).mono ?_
                    rintro e wf ⟨rfl, hb⟩
                    rw [HQT.out]
                    refine hK.out _ _ ?hs174 (fun hS4 => ?_)
                    case hs174 => exact bel_next hS3 hb
                    clear hK K hb
                    try simp only [Act.put, List.setIfInBounds_toArray, List.set_cons_zero, List.set_cons_succ]
                    refine takeInH 14 55 ?v175 rfl rfl (by kernel_rfl) (by kernel_rfl) (by kernel_rfl) (fun _ _ _ h => h) (by kernel_rfl) hS4 ?hy175 ?_
                    case hy175 => (intro W hW; clear hW; go_simp; try rfl)
                    simp only [Act.put, List.setIfInBounds_toArray, List.set_cons_zero, List.set_cons_succ]
                    refine takeInH 15 56 ?v176 rfl rfl (by kernel_rfl) (by kernel_rfl) (by kernel_rfl) (fun _ _ _ h => h) (by kernel_rfl) hS4 ?hy176 ?_
                    case hy176 => (intro W hW; clear hW; go_simp; try rfl)
                    simp only [Act.put, List.setIfInBounds_toArray, List.set_cons_zero, List.set_cons_succ]
                    refine wpAnyH_done (by kernel_rfl) ?_ _
                    go_wp2
                    go_meet
                    case rel => exact ⟨rfl, (show Hid _ from bel_next BB.out hS4), (show Hid _ from HN2.out.below hS4)⟩
                  · have HQT := hide hst
                    clear hst
                    refine wp_region_held_drew (S := fun W => Below wy.heap.size wy W) (by kernel_rfl) ((Below.refl _ wy).drew) (fun hS0 => ?_)
                    refine takeInH 0 41 ?v177 rfl rfl (by kernel_rfl) (by kernel_rfl) (by kernel_rfl) (fun _ _ _ h => h) (by kernel_rfl) hS0 ?hy177 ?_
                    case hy177 => (intro W hW; have e0 := bcell hW f0; have e1 := bcell hW f1; have e2 := bcell hW f2; have e3 := bcell hW f3; have e4 := bcell hW h0; have e5 := bcell hW h1; have e6 := bcell hW h2; have e7 := bcell hW h3; clear hW; go_simp; try rfl)
                    simp only [Act.put, List.setIfInBounds_toArray, List.set_cons_zero, List.set_cons_succ]
                    refine takeInH 1 42 ?v178 rfl rfl (by kernel_rfl) (by kernel_rfl) (by kernel_rfl) (fun _ _ _ h => h) (by kernel_rfl) hS0 ?hy178 ?_
                    case hy178 => (intro W hW; have e0 := bcell hW f0; have e1 := bcell hW f1; have e2 := bcell hW f2; have e3 := bcell hW f3; have e4 := bcell hW h0; have e5 := bcell hW h1; have e6 := bcell hW h2; have e7 := bcell hW h3; clear hW; go_simp; try rfl)
                    simp only [Act.put, List.setIfInBounds_toArray, List.set_cons_zero, List.set_cons_succ]
                    refine takeInH 3 44 ?v179 rfl rfl (by kernel_rfl) (by kernel_rfl) (by kernel_rfl) (fun _ _ _ h => h) (by kernel_rfl) hS0 ?hy179 ?_
                    case hy179 => (intro W hW; have e0 := bcell hW f0; have e1 := bcell hW f1; have e2 := bcell hW f2; have e3 := bcell hW f3; have e4 := bcell hW h0; have e5 := bcell hW h1; have e6 := bcell hW h2; have e7 := bcell hW h3; clear hW; go_simp; try rfl)
                    simp only [Act.put, List.setIfInBounds_toArray, List.set_cons_zero, List.set_cons_succ]
                    refine takeInH 4 45 ?v180 rfl rfl (by kernel_rfl) (by kernel_rfl) (by kernel_rfl) (fun _ _ _ h => h) (by kernel_rfl) hS0 ?hy180 ?_
                    case hy180 => (intro W hW; have e0 := bcell hW f0; have e1 := bcell hW f1; have e2 := bcell hW f2; have e3 := bcell hW f3; have e4 := bcell hW h0; have e5 := bcell hW h1; have e6 := bcell hW h2; have e7 := bcell hW h3; clear hW; go_simp; try rfl)
                    simp only [Act.put, List.setIfInBounds_toArray, List.set_cons_zero, List.set_cons_succ]
                    refine wpAnyH_ready (rs := [2]) (by kernel_rfl) (by simp) ?_
                    refine AllReadyH.cons rfl (fun K hK => ?_) AllReadyH.nil
                    go_simp
                    refine (Later12_any pk qk pt qt pr qr pw qw _).mono ?_
                    rintro e wa ⟨rfl, hb⟩
                    rw [show laterN (pk, pt, pr, pw) (qk, qt, qr, qw) = true from HLT.out]
                    refine hK.out _ _ ?hs181 (fun hS1 => ?_)
                    case hs181 => exact bel_next hS0 hb
                    clear hK K hb
                    try simp only [Act.put, List.setIfInBounds_toArray, List.set_cons_zero, List.set_cons_succ]
                    refine wpAnyH_ready (rs := [5]) (by kernel_rfl) (by simp) ?_
                    refine AllReadyH.cons rfl (fun K hK => ?_) AllReadyH.nil
                    go_simp
                    refine (Later12_ref pk qk pt qt pr qr pw qw _).mono ?_
                    rintro e wd ⟨rfl, hb⟩
                    rw [show laterN (pk, pt, pr, pw) (qk, qt, qr, qw) = true from HLT.out]
                    refine hK.out _ _ ?hs182 (fun hS2 => ?_)
                    case hs182 => exact bel_next hS1 hb
                    clear hK K hb
                    try simp only [Act.put, List.setIfInBounds_toArray, List.set_cons_zero, List.set_cons_succ]
                    refine takeInH 6 47 ?v183 rfl rfl (by kernel_rfl) (by kernel_rfl) (by kernel_rfl) (fun _ _ _ h => h) (by kernel_rfl) hS2 ?hy183 ?_
                    case hy183 => (intro W hW; clear hW; go_simp; try rfl)
                    simp only [Act.put, List.setIfInBounds_toArray, List.set_cons_zero, List.set_cons_succ]
                    refine takeInH 7 48 ?v184 rfl rfl (by kernel_rfl) (by kernel_rfl) (by kernel_rfl) (fun _ _ _ h => h) (by kernel_rfl) hS2 ?hy184 ?_
                    case hy184 => (intro W hW; clear hW; go_simp; try rfl)
                    simp only [Act.put, List.setIfInBounds_toArray, List.set_cons_zero, List.set_cons_succ]
                    refine takeInH 8 49 ?v185 rfl rfl (by kernel_rfl) (by kernel_rfl) (by kernel_rfl) (fun _ _ _ h => h) (by kernel_rfl) hS2 ?hy185 ?_
                    case hy185 => (intro W hW; clear hW; go_simp; try rfl)
                    simp only [Act.put, List.setIfInBounds_toArray, List.set_cons_zero, List.set_cons_succ]
                    refine takeInH 9 50 ?v186 rfl rfl (by kernel_rfl) (by kernel_rfl) (by kernel_rfl) (fun _ _ _ h => h) (by kernel_rfl) hS2 ?hy186 ?_
                    case hy186 => (intro W hW; clear hW; go_simp; try rfl)
                    simp only [Act.put, List.setIfInBounds_toArray, List.set_cons_zero, List.set_cons_succ]
                    refine takeInH 11 52 ?v187 rfl rfl (by kernel_rfl) (by kernel_rfl) (by kernel_rfl) (fun _ _ _ h => h) (by kernel_rfl) hS2 ?hy187 ?_
                    case hy187 => (intro W hW; clear hW; go_simp; try rfl)
                    simp only [Act.put, List.setIfInBounds_toArray, List.set_cons_zero, List.set_cons_succ]
                    refine takeInH 12 53 ?v188 rfl rfl (by kernel_rfl) (by kernel_rfl) (by kernel_rfl) (fun _ _ _ h => h) (by kernel_rfl) hS2 ?hy188 ?_
                    case hy188 => (intro W hW; clear hW; go_simp; try rfl)
                    simp only [Act.put, List.setIfInBounds_toArray, List.set_cons_zero, List.set_cons_succ]
                    refine wpAnyH_ready (rs := [10]) (by kernel_rfl) (by simp) ?_
                    refine AllReadyH.cons rfl (fun K hK => ?_) AllReadyH.nil
                    go_simp
                    refine (Same12_any a n cpa s b m cpb t _ (HVA.out.below (bel_next BB.out hS2)) (HVB.out.below (bel_next BB.out hS2))).mono ?_
                    rintro e we ⟨rfl, hb⟩
                    rw [HQT.out]
                    refine hK.out _ _ ?hs189 (fun hS3 => ?_)
                    case hs189 => exact bel_next hS2 hb
                    clear hK K hb
                    try simp only [Act.put, List.setIfInBounds_toArray, List.set_cons_zero, List.set_cons_succ]
                    refine wpAnyH_ready (rs := [13]) (by kernel_rfl) (by simp) ?_
                    refine AllReadyH.cons rfl (fun K hK => ?_) AllReadyH.nil
                    go_simp
                    refine (Same12_ref a n cpa s b m cpb t _ (HVA.out.below (bel_next BB.out hS3)) (HVB.out.below (bel_next BB.out hS3))).mono ?_
                    rintro e wf ⟨rfl, hb⟩
                    rw [HQT.out]
                    refine hK.out _ _ ?hs190 (fun hS4 => ?_)
                    case hs190 => exact bel_next hS3 hb
                    clear hK K hb
                    try simp only [Act.put, List.setIfInBounds_toArray, List.set_cons_zero, List.set_cons_succ]
                    refine takeInH 14 55 ?v191 rfl rfl (by kernel_rfl) (by kernel_rfl) (by kernel_rfl) (fun _ _ _ h => h) (by kernel_rfl) hS4 ?hy191 ?_
                    case hy191 => (intro W hW; clear hW; go_simp; try rfl)
                    simp only [Act.put, List.setIfInBounds_toArray, List.set_cons_zero, List.set_cons_succ]
                    refine takeInH 15 56 ?v192 rfl rfl (by kernel_rfl) (by kernel_rfl) (by kernel_rfl) (fun _ _ _ h => h) (by kernel_rfl) hS4 ?hy192 ?_
                    case hy192 => (intro W hW; clear hW; go_simp; try rfl)
                    simp only [Act.put, List.setIfInBounds_toArray, List.set_cons_zero, List.set_cons_succ]
                    refine wpAnyH_done (by kernel_rfl) ?_ _
                    go_wp2
                    go_meet
                    case rel => exact ⟨rfl, (show Hid _ from bel_next BB.out hS4), (show Hid _ from HN2.out.below hS4)⟩
              case rest =>
                clear f0 f1 f2 f3 h0 h1 h2 h3 BB HN2
                obtain ⟨rfl, BB, HN2⟩ := hcut
                go_wp2_with (go_at_call 12; refine (May12_ref a n cpa s _ (HVA.out.below BB.out)).mono ?_; rintro e wy ⟨rfl, hb⟩; rw [HMS.out]; replace BB := hide (bel_next BB.out hb); (try replace HX7 := hide (HX7.out.below hb)); (try replace HX8 := hide (HX8.out.below hb)); (try replace HN2 := hide (HN2.out.below hb)); (try replace HN3 := hide (HN3.out.below hb)); (try replace HNW := hide (HNW.out.below hb)); clear hb; refine Stop.at ?_)
                unfold Stop
                go_wp2_with (go_at_call 12; refine (May12_ref b m cpb t _ (HVB.out.below BB.out)).mono ?_; rintro e wy ⟨rfl, hb⟩; rw [HMT.out]; replace BB := hide (bel_next BB.out hb); (try replace HX7 := hide (HX7.out.below hb)); (try replace HX8 := hide (HX8.out.below hb)); (try replace HN2 := hide (HN2.out.below hb)); (try replace HN3 := hide (HN3.out.below hb)); (try replace HNW := hide (HNW.out.below hb)); clear hb; refine Stop.at ?_)
                unfold Stop
                generalize hww : wy = wA at *
                clear hww
                go_wp2
                go_loopw [11, 12] (fun V v wr => ∃ (k : Nat) (pW : Option Addr) (cW : Nat) (W : List Nt), k ≤ m ∧ v = .int .i64 k ∧ V = .slice pW W.length cW ∧ Hid (NN wr pW W.length W) ∧ Hid (CP pW W.length cW) ∧ Hid (JW s t W k) ∧ Hid (Below wA.heap.size wA wr)) (fun _ v _ => m - (intOf v).toNat)
                case atStart => exact ⟨0, a, cpa, s, by omega, rfl, (by rw [HLS.out]), (show Hid _ by rw [HLS.out]; exact HVA.out.below BB.out), (show Hid _ by rw [HLS.out]; exact HCA.out), JW.nil t HMS.out, Below.refl _ _⟩
                case round =>
                  obtain ⟨k0, pW, cW, W, hk, rfl, rfl, HNW, HCW, HJW, HB2⟩ := hrel
                  obtain ⟨nW, hns⟩ : ∃ x, W.length = x := ⟨_, rfl⟩
                  have HLnW := hide hns
                  rw [hns] at HNW HCW ⊢
                  clear hns
                  have hW4 : nW ≤ 200 := by have h := HJW.out.2.2; rw [HLnW.out, HLS.out] at h; omega
                  by_cases hlt : k0 < m
                  · have hk0 : (0 : Int) ≤ (k0 : Int) := by omega
                    have hk1 : (k0 : Int) < (m : Int) := by omega
                    obtain ⟨bb, ob, rfl⟩ := HVB.out.addr (by omega)
                    obtain ⟨k, ta, rp, wd, hx, c0, c1, c2_, c3_⟩ := (HVB.out.below (bel_next BB.out HB2.out)).at k0 (by omega)
                    have hon : mayNt (k, ta, rp, wd) = true := (mayG_iff.1 HMT.out).1 _ (List.mem_of_getElem? hx)
                    have HKY : Hid (mayK k = true) := (mayNt_iff.1 hon).1
                    have HMW : Hid (mayR12 W = true) := HJW.out.2.1
                    have HJW2 : Hid (JW s t (setN W (k, ta, rp, wd)) (k0 + 1)) := HJW.out.step hx hon (by rw [HLS.out]; omega)
                    clear hx hon
                    go_wp2_with (go_at_call 16; refine (Set12_ref pW nW cW W k ta rp wd _ HNW.out HCW.out HMW.out HKY.out (by omega)).mono ?_; rintro e wn ⟨p9, c9, rfl, hn9, hc9, hb⟩; have HN9 := hide hn9; have HC9 := hide hc9; replace HB2 := hide (bel_next HB2.out hb); clear hn9 hc9 hb)
                    go_roundw
                    case rel => exact ⟨k0 + 1, p9, c9, setN W (k, ta, rp, wd), by omega, by go_num, rfl, HN9, HC9, HJW2, HB2⟩
                    case measure => simp [intOf]; omega
                  · obtain rfl : k0 = m := by omega
                    have HRW : Hid (R = W) := by unfold Hid; rw [← HRS.out]; exact (HJW.out.end HLT0.out HMS.out HMT.out).1
                    replace BB := hide (bel_next BB.out HB2.out)
                    (try replace HX7 := hide (HX7.out.below HB2.out))
                    (try replace HX8 := hide (HX8.out.below HB2.out))
                    (try replace HN2 := hide (HN2.out.below HB2.out))
                    (try replace HN3 := hide (HN3.out.below HB2.out))
                    skip
                    go_upto_region 15 with (go_at_call 17; refine (HJ2.out _ (HVB.out.below BB.out) (HVA.out.below BB.out)).mono ?_; rintro e wy ⟨p3, c3, rfl, hn3, hc3, hb⟩; replace BB := hide (bel_next BB.out hb); (try replace HX7 := hide (HX7.out.below hb)); (try replace HX8 := hide (HX8.out.below hb)); (try replace HN2 := hide (HN2.out.below hb)); (try replace HN3 := hide (HN3.out.below hb)); (try replace HNW := hide (HNW.out.below hb)); have HN3 := hide hn3; clear hn3 hc3 hb)
                    go_wp2_with (go_at_call 15; refine (Same12_ref p2 nR c2 R pW nW cW W _ HN2.out HNW.out).mono ?_; rintro e wy ⟨rfl, hb⟩; rw [decide_eq_true HRW.out]; replace BB := hide (bel_next BB.out hb); (try replace HX7 := hide (HX7.out.below hb)); (try replace HX8 := hide (HX8.out.below hb)); (try replace HN2 := hide (HN2.out.below hb)); (try replace HN3 := hide (HN3.out.below hb)); (try replace HNW := hide (HNW.out.below hb)); clear hb; refine Stop.at ?_)
                    unfold Stop
                    go_wp2_with (go_at_call 15; refine (Same12_ref p3 nR c3 R pW nW cW W _ HN3.out HNW.out).mono ?_; rintro e wy ⟨rfl, hb⟩; rw [decide_eq_true HRW.out]; replace BB := hide (bel_next BB.out hb); (try replace HX7 := hide (HX7.out.below hb)); (try replace HX8 := hide (HX8.out.below hb)); (try replace HN2 := hide (HN2.out.below hb)); (try replace HN3 := hide (HN3.out.below hb)); (try replace HNW := hide (HNW.out.below hb)); clear hb; refine Stop.at ?_)
                    unfold Stop
                    go_wp2_with (go_at_call 8; refine (awake12 _).mono ?_; rintro e wz ⟨rfl, hb⟩)
                    go_ret
                    exact ⟨rfl, bel_next BB.out hb⟩

/-! ### The row's step -/
set_option maxRecDepth 100000 in
theorem lifted (os : Os) (started : os.Started) (H : Type) (enc : TypeId × Value → H) :
    ReturnsInHanded {} Try.checked os 4 .any (Rows.registerJoinsSpec.pre6 enc Try.prog Try.f4 Rows.registerJoinsRow.domain false) (Rows.registerJoinsSpec.post enc Try.prog Try.f4 false true false false) := by
  refine returnsInHanded_of_change_sized (C := Try.checked) own started (by kernel_rfl) Try.func4
    (ChangeSpec.witness6 (enc := enc) (C := Try.checked) false ⟨#[], #[.slice none 0 0, .slice none 0 0, .agg #[.string ⟨#[]⟩, .int .i64 0, .int .i64 0, .string ⟨#[]⟩, .string ⟨#[]⟩, .int .i64 0, .int .i64 0, .string ⟨#[]⟩]], []⟩ 8 (by kernel_rfl) (by kernel_rfl) (by kernel_rfl) (by kernel_rfl)) ?_
  intro W base args ds gs before hval0 hW hcnd hz0 _
  have hval : ∀ (j : Nat) t v, Try.f4.params[j]? = some t → args[j]? = some v → Value.okWide Try.prog W .any base t v := hval0
  have hz : (DataW.weightsEach Try.prog (Try.f4.params.toList ++ Rows.registerJoinsSpec.plain.varTypes Try.prog) (ds ++ gs)).all (· ≤ reachBytes) = true := hz0
  have hW' := hW
  obtain ⟨p, q, hA0, hV, rfl, hfz, hnd⟩ := hW
  have hA : DataW.TrodAll enc Try.prog W 0 (fun _ => true) true Try.f4.params.toList args.toList ds p := hA0
  rw [Try.params4] at hA hval hz
  obtain ⟨v0, vs0, d0, ds0, p0, q0, hargs, rfl, rfl, h0, r0⟩ := trodAll_cons hA
  obtain ⟨v1, vs1, d1, ds1, p1, q1, rfl, rfl, rfl, h1, r1⟩ := trodAll_cons r0
  obtain ⟨v2, vs2, d2, ds2, p2, q2, rfl, rfl, rfl, h2, r2⟩ := trodAll_cons r1
  obtain ⟨rfl, rfl, rfl⟩ := trodAll_nil r2
  obtain rfl : args = #[v0, v1, v2] := by cases args; simp_all
  obtain ⟨rfl, rfl⟩ := trodVars_none hV
  have k0 := h0
  have lt0 : ∀ x ∈ p0, x.block < W.heap.size := by obtain ⟨m, hm⟩ := k0; exact DataW.trod_lt m _ _ _ hm
  have w0 : InNn W v0 := in_notes (hval 0 22 v0 rfl rfl) h0 (fun n hn => by have := List.all_eq_true.1 hz n (DataW.weights_mem_each (j := 0) (t := 22) rfl rfl n hn); simpa using this)
  have k1 := h1
  have lt1 : ∀ x ∈ p1, x.block < W.heap.size := by obtain ⟨m, hm⟩ := k1; exact DataW.trod_lt m _ _ _ hm
  have w1 : InNn W v1 := in_notes (hval 1 22 v1 rfl rfl) h1 (fun n hn => by have := List.all_eq_true.1 hz n (DataW.weights_mem_each (j := 1) (t := 22) rfl rfl n hn); simpa using this)
  have k2 := h2
  have lt2 : ∀ x ∈ p2, x.block < W.heap.size := by obtain ⟨m, hm⟩ := k2; exact DataW.trod_lt m _ _ _ hm
  have w2 : InN2 W v2 := in_two (hval 2 38 v2 rfl rfl) h2 (fun n hn => by have := List.all_eq_true.1 hz n (DataW.weights_mem_each (j := 2) (t := 38) rfl rfl n hn); simpa using this)
  clear hA0 hval0 hz0
  refine (walk v0 v1 v2 W w0 w1 w2).mono fun e W' ⟨he, bel⟩ => ?_
  subst he
  exact ⟨_, rfl, _, _, _, [], _, [], hW', trodAll_mk1 (shut_bool Try.underlying4 _), (trodAll_cons_mk (Below.trod laidOut (by kernel_rfl) (of_decide_eq_true (by kernel_rfl)) k0 bel lt0) (trodAll_cons_mk (Below.trod laidOut (by kernel_rfl) (of_decide_eq_true (by kernel_rfl)) k1 bel lt1) (trodAll_cons_mk (Below.trod laidOut (by kernel_rfl) (of_decide_eq_true (by kernel_rfl)) k2 bel lt2) trodAll_mk0))), rfl, bel.frame _, fun h => by cases h⟩

theorem over : Rows.registerJoinsRow.holds Try.pinned (OpenSpec.ofChange Rows.registerJoinsSpec) :=
  OpenClaim.holds_of_wide 4 Try.f4 rfl rfl rfl rfl rfl rfl rfl ⟨rfl, rfl, rfl, rfl, rfl⟩ rfl rfl rfl rfl rfl (by kernel_rfl) Try.func4 (by kernel_rfl)
    (of_decide_eq_true (by kernel_rfl)) (by unfold Func.isWrapper; first | (rw [if_pos (by decide +kernel)]; kernel_rfl) | (rw [if_neg (by decide +kernel)]; exact ⟨rfl, rfl⟩))
    (fun os started H enc _ => lifted os started H enc)
end Go.Proofs.Ytohkopjacpendaa.registerJoins
namespace Go.Proofs.Ytohkopjacpendaa
theorem registerJoins_holds : Rows.RegisterJoinsSaid := registerJoins.over
end Go.Proofs.Ytohkopjacpendaa
