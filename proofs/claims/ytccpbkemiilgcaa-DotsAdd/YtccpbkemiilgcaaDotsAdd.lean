/- DotsAdd is true for every Seen, every dots and every dot: which dots there may be, which are seen, and any Seen with any more. Conditions: none but the form's own. -/
import Derived.Test.YtccpbkemiilgcaaRows
import Derived.WalkKit
import Derived.ProofKit
import Derived.OpenShut
import Derived.ShutString
import Derived.ChangeOld
import Derived.Below
import Derived.SizedLaws
import Derived.Test.YtccpbkemiilgcaaDLaw
import Derived.Test.YtccpbkemiilgcaaDVar
namespace Go.Proofs.Ytccpbkemiilgcaa.dotsAdd
open Go.ChangeShapes Go.WideShapes Go.ChangeAt Go.RowKit
set_option linter.unusedVariables false

theorem own : ownKnob Try.prog.godebug = none := by kernel_rfl
theorem laidOut : laidOutB Try.prog = true := by kernel_rfl

set_option maxHeartbeats 16000000 in
set_option maxRecDepth 100000 in
theorem walk (v0 : Value) (v1 : Value) (v2 : Value) (w : World) (w0 : InS w v0) (w1 : InDs w v1) (w2 : InD w v2) :
    Calls Try.prog 3 #[v0, v1, v2] w fun e w' => e = .returned (.bool true) ∧ Below w.heap.size w w' := by
  obtain ⟨pa, na, ca, c, pm, nm, cm, m, rfl, hN, hCa, hD, hCm⟩ := w0
  obtain ⟨pl, n, cap, l, rfl, hL, hCl⟩ := w1
  obtain ⟨r, s, rfl⟩ := w2
  have hna := hN.2.1
  have hnm := hD.2.1
  have hn := hL.2.1
  have HN := hide hN
  have HD := hide hD
  have HLs := hide hL
  have HCa := hide hCa
  have HCm := hide hCm
  have HCl := hide hCl
  have s0 : ((w.alloc (bxS pa pm na ca nm cm)).alloc (bxD r s)).cell? ⟨w.heap.size, 0, none⟩ = some (.slice pa na ca) := cell_old _ (cell_new w _ _ _ rfl 0 _ rfl)
  have s1 : ((w.alloc (bxS pa pm na ca nm cm)).alloc (bxD r s)).cell? ⟨w.heap.size, 1, none⟩ = some (.slice pm nm cm) := cell_old _ (cell_new w _ _ _ rfl 1 _ rfl)
  have d0 : ((w.alloc (bxS pa pm na ca nm cm)).alloc (bxD r s)).cell? ⟨w.heap.size + 1, 0, none⟩ = some (.int .i64 r) := cell_new _ _ _ _ (by simp) 0 _ rfl
  have d1 : ((w.alloc (bxS pa pm na ca nm cm)).alloc (bxD r s)).cell? ⟨w.heap.size + 1, 1, none⟩ = some (.int .i64 s) := cell_new _ _ _ _ (by simp) 1 _ rfl
  have HU := hide (bel2 w (bxS pa pm na ca nm cm) (bxD r s))
  clear hN hD hL hCa hCm hCl
  have HM := hide (fun W => May_any r s W)
  have HMR := hide (fun W => MayR_any r s W)
  generalize mayD (r, s) = bm at *
  have HCk := hide (fun W (h : NS W pa na c) (k : DS W pm nm m) => Check_any pa pm na ca nm cm c m W h k)
  have HQe := hide (fun W (h : NS W pa na c) (k : DS W pm nm m) => SeenR_any pa pm na ca nm cm c m W h k)
  have HHa := hide (fun W (h : NS W pa na c) (k : DS W pm nm m) => Has_any pa pm na ca nm cm c m (r, s) W h k)
  have HHr := hide (fun W (h : NS W pa na c) (k : DS W pm nm m) => HasR_any pa pm na ca nm cm c m (r, s) W h k)
  have HAl := hide (fun W (h : DS W pl n l) => All_any pl n cap l W h)
  by_cases hli : na ≤ 20 ∧ nm ≤ 40
  · by_cases hn40 : (n : Int) > 40
    · go_enter Try.func3, Try.ntmps3
      go_wp2_with fail
      refine Calls.mono (light4 pa pm na ca nm cm _ true (decide_eq_true hli) hna hnm) ?_
      rintro e u ⟨rfl, hb⟩
      replace s0 := bcell hb s0
      replace s1 := bcell hb s1
      replace d0 := bcell hb d0
      replace d1 := bcell hb d1
      replace HU := hide (bel_next HU.out hb)
      clear hb
      go_wp2_with fail
      refine Calls.mono (awake4 _) ?_
      rintro e u ⟨rfl, hb⟩
      replace s0 := bcell hb s0
      replace s1 := bcell hb s1
      replace d0 := bcell hb d0
      replace d1 := bcell hb d1
      replace HU := hide (bel_next HU.out hb)
      clear hb
      go_wp2
      go_ret
      exact ⟨rfl, HU.out⟩
    · have hn40' : n ≤ 40 := by omega
      rcases hs : seenB c m with _ | _
      · have hk := chkS_bad hs
        rw [← hk] at HCk
        rw [hs] at HQe HHa
        clear hk
        go_enter Try.func3, Try.ntmps3
        go_wp2_with fail
        refine Calls.mono (light4 pa pm na ca nm cm _ true (decide_eq_true hli) hna hnm) ?_
        rintro e u ⟨rfl, hb⟩
        replace s0 := bcell hb s0
        replace s1 := bcell hb s1
        replace d0 := bcell hb d0
        replace d1 := bcell hb d1
        replace HU := hide (bel_next HU.out hb)
        clear hb
        go_wp2_with fail
        refine Calls.mono (Add_bad pa pm na ca nm cm c m pl n cap l _ (HN.out.below HU.out) (HD.out.below HU.out) (HLs.out.below HU.out) hs) ?_
        rintro e u ⟨⟨p1, k1, e1, p2, k2, e2, rfl, hns, hcp1, hds, hcp2, _, _⟩, hb⟩
        replace s0 := bcell hb s0
        replace s1 := bcell hb s1
        replace d0 := bcell hb d0
        replace d1 := bcell hb d1
        replace HU := hide (bel_next HU.out hb)
        have NX := hide hns
        have DX := hide hds
        clear hb hns hds
        go_wp2
        have x0 : (u.alloc (.cells #[.slice p1 k1 e1, .slice p2 k2 e2] 26)).cell? ⟨u.heap.size, 0, none⟩ = some (.slice p1 k1 e1) := cell_new u _ _ _ rfl 0 _ rfl
        have x1 : (u.alloc (.cells #[.slice p1 k1 e1, .slice p2 k2 e2] 26)).cell? ⟨u.heap.size, 1, none⟩ = some (.slice p2 k2 e2) := cell_new u _ _ _ rfl 1 _ rfl
        replace s0 := bcell (bel1 u (.cells #[.slice p1 k1 e1, .slice p2 k2 e2] 26)) s0
        replace s1 := bcell (bel1 u (.cells #[.slice p1 k1 e1, .slice p2 k2 e2] 26)) s1
        replace d0 := bcell (bel1 u (.cells #[.slice p1 k1 e1, .slice p2 k2 e2] 26)) d0
        replace d1 := bcell (bel1 u (.cells #[.slice p1 k1 e1, .slice p2 k2 e2] 26)) d1
        replace NX := hide (NX.out.below (bel1 u (.cells #[.slice p1 k1 e1, .slice p2 k2 e2] 26)))
        replace DX := hide (DX.out.below (bel1 u (.cells #[.slice p1 k1 e1, .slice p2 k2 e2] 26)))
        replace HU := hide (bel_next HU.out (bel1 u (.cells #[.slice p1 k1 e1, .slice p2 k2 e2] 26)))
        obtain ⟨gx, hgx⟩ : ∃ gx, gx = u.heap.size := ⟨_, rfl⟩
        generalize u.alloc (.cells #[.slice p1 k1 e1, .slice p2 k2 e2] 26) = u1 at *
        rw [← hgx] at *
        refine wp_region_held_drew (S := fun W => Below u1.heap.size u1 W) (by kernel_rfl) ((Below.refl _ u1).drew) (fun hS0 => ?_)
        refine takeInH 0 26 ?v1 rfl rfl (by kernel_rfl) (by kernel_rfl) (by kernel_rfl) (fun _ _ _ h => h) (by kernel_rfl) hS0 ?hy1 ?_
        case hy1 => (intro W hW; have e0 := bcell hW s0; have e1 := bcell hW s1; have e2 := bcell hW d0; have e3 := bcell hW d1; clear hW; go_simp; try rfl)
        simp only [Act.put, List.setIfInBounds_toArray, List.set_cons_zero, List.set_cons_succ]
        refine takeInH 2 28 ?v2 rfl rfl (by kernel_rfl) (by kernel_rfl) (by kernel_rfl) (fun _ _ _ h => h) (by kernel_rfl) hS0 ?hy2 ?_
        case hy2 => (intro W hW; have e0 := bcell hW s0; have e1 := bcell hW s1; have e2 := bcell hW d0; have e3 := bcell hW d1; clear hW; go_simp; try rfl)
        simp only [Act.put, List.setIfInBounds_toArray, List.set_cons_zero, List.set_cons_succ]
        refine wpAnyH_ready (rs := [1]) (by kernel_rfl) (by simp) ?_
        refine AllReadyH.cons rfl (fun K hK => ?_) AllReadyH.nil
        go_simp
        refine (HM.out _).mono ?_
        rintro e w' ⟨rfl, hg⟩
        have hb := hg.bel
        clear hg
        try go_wp2_with fail
        refine hK.out _ _ ?hs3 (fun hS1 => ?_)
        case hs3 => exact bel_next hS0 hb
        clear hK K hb
        try simp only [Act.put, List.setIfInBounds_toArray, List.set_cons_zero, List.set_cons_succ]
        refine wpAnyH_ready (rs := [3]) (by kernel_rfl) (by simp) ?_
        refine AllReadyH.cons rfl (fun K hK => ?_) AllReadyH.nil
        go_simp
        refine (HMR.out _).mono ?_
        rintro e w' ⟨rfl, hg⟩
        have hb := hg.bel
        clear hg
        try go_wp2_with fail
        refine hK.out _ _ ?hs4 (fun hS2 => ?_)
        case hs4 => exact bel_next hS1 hb
        clear hK K hb
        try simp only [Act.put, List.setIfInBounds_toArray, List.set_cons_zero, List.set_cons_succ]
        refine takeInH 4 30 ?v5 rfl rfl (by kernel_rfl) (by kernel_rfl) (by kernel_rfl) (fun _ _ _ h => h) (by kernel_rfl) hS2 ?hy5 ?_
        case hy5 => (intro W hW; clear hW; go_simp; try rfl)
        simp only [Act.put, List.setIfInBounds_toArray, List.set_cons_zero, List.set_cons_succ]
        refine takeInH 5 31 ?v6 rfl rfl (by kernel_rfl) (by kernel_rfl) (by kernel_rfl) (fun _ _ _ h => h) (by kernel_rfl) hS2 ?hy6 ?_
        case hy6 => (intro W hW; clear hW; go_simp; try rfl)
        simp only [Act.put, List.setIfInBounds_toArray, List.set_cons_zero, List.set_cons_succ]
        refine takeInH 6 32 ?v7 rfl rfl (by kernel_rfl) (by kernel_rfl) (by kernel_rfl) (fun _ _ _ h => h) (by kernel_rfl) hS2 ?hy7 ?_
        case hy7 => (intro W hW; have e0 := bcell hW s0; have e1 := bcell hW s1; have e2 := bcell hW d0; have e3 := bcell hW d1; clear hW; go_simp; try rfl)
        simp only [Act.put, List.setIfInBounds_toArray, List.set_cons_zero, List.set_cons_succ]
        refine takeInH 9 35 ?v8 rfl rfl (by kernel_rfl) (by kernel_rfl) (by kernel_rfl) (fun _ _ _ h => h) (by kernel_rfl) hS2 ?hy8 ?_
        case hy8 => (intro W hW; have e0 := bcell hW s0; have e1 := bcell hW s1; have e2 := bcell hW d0; have e3 := bcell hW d1; clear hW; go_simp; try rfl)
        simp only [Act.put, List.setIfInBounds_toArray, List.set_cons_zero, List.set_cons_succ]
        refine wpAnyH_ready (rs := [7]) (by kernel_rfl) (by simp) ?_
        refine AllReadyH.cons rfl (fun K hK => ?_) AllReadyH.nil
        go_simp
        refine (HCk.out _ (HN.out.below (bel_next HU.out hS2)) (HD.out.below (bel_next HU.out hS2))).mono ?_
        rintro e w' ⟨rfl, hb⟩
        try go_wp2_with fail
        refine hK.out _ _ ?hs9 (fun hS3 => ?_)
        case hs9 => exact bel_next hS2 hb
        clear hK K hb
        try simp only [Act.put, List.setIfInBounds_toArray, List.set_cons_zero, List.set_cons_succ]
        refine takeInH 8 34 ?v10 rfl rfl (by kernel_rfl) (by kernel_rfl) (by kernel_rfl) (fun _ _ _ h => h) (by kernel_rfl) hS3 ?hy10 ?_
        case hy10 => (intro W hW; clear hW; go_simp; try rfl)
        simp only [Act.put, List.setIfInBounds_toArray, List.set_cons_zero, List.set_cons_succ]
        refine wpAnyH_ready (rs := [10]) (by kernel_rfl) (by simp) ?_
        refine AllReadyH.cons rfl (fun K hK => ?_) AllReadyH.nil
        go_simp
        refine (HQe.out _ (HN.out.below (bel_next HU.out hS3)) (HD.out.below (bel_next HU.out hS3))).mono ?_
        rintro e w' ⟨rfl, hb⟩
        try go_wp2_with fail
        refine hK.out _ _ ?hs11 (fun hS4 => ?_)
        case hs11 => exact bel_next hS3 hb
        clear hK K hb
        try simp only [Act.put, List.setIfInBounds_toArray, List.set_cons_zero, List.set_cons_succ]
        refine takeInH 11 37 ?v12 rfl rfl (by kernel_rfl) (by kernel_rfl) (by kernel_rfl) (fun _ _ _ h => h) (by kernel_rfl) hS4 ?hy12 ?_
        case hy12 => (intro W hW; clear hW; go_simp; try rfl)
        simp only [Act.put, List.setIfInBounds_toArray, List.set_cons_zero, List.set_cons_succ]
        refine takeInH 12 38 ?v13 rfl rfl (by kernel_rfl) (by kernel_rfl) (by kernel_rfl) (fun _ _ _ h => h) (by kernel_rfl) hS4 ?hy13 ?_
        case hy13 => (intro W hW; clear hW; go_simp; try rfl)
        simp only [Act.put, List.setIfInBounds_toArray, List.set_cons_zero, List.set_cons_succ]
        refine takeInH 13 39 ?v14 rfl rfl (by kernel_rfl) (by kernel_rfl) (by kernel_rfl) (fun _ _ _ h => h) (by kernel_rfl) hS4 ?hy14 ?_
        case hy14 => (intro W hW; clear hW; go_simp; try rfl)
        simp only [Act.put, List.setIfInBounds_toArray, List.set_cons_zero, List.set_cons_succ]
        refine takeInH 14 40 ?v15 rfl rfl (by kernel_rfl) (by kernel_rfl) (by kernel_rfl) (fun _ _ _ h => h) (by kernel_rfl) hS4 ?hy15 ?_
        case hy15 => (intro W hW; clear hW; go_simp; try rfl)
        simp only [Act.put, List.setIfInBounds_toArray, List.set_cons_zero, List.set_cons_succ]
        refine takeInH 16 42 ?v16 rfl rfl (by kernel_rfl) (by kernel_rfl) (by kernel_rfl) (fun _ _ _ h => h) (by kernel_rfl) hS4 ?hy16 ?_
        case hy16 => (intro W hW; clear hW; go_simp; try rfl)
        simp only [Act.put, List.setIfInBounds_toArray, List.set_cons_zero, List.set_cons_succ]
        refine wpAnyH_ready (rs := [15]) (by kernel_rfl) (by simp) ?_
        refine AllReadyH.cons rfl (fun K hK => ?_) AllReadyH.nil
        go_simp
        refine Calls.mono (Order_dots pl n cap l _ (HLs.out.below (bel_next HU.out hS4)) (by omega)) ?_
        rintro e w' ⟨q1, cq1, rfl, hdo, _, hb⟩
        have DO := hide hdo
        clear hdo
        try go_wp2_with fail
        refine hK.out _ _ ?hs17 (fun hS5 => ?_)
        case hs17 => exact bel_next hS4 hb
        clear hK K hb
        try simp only [Act.put, List.setIfInBounds_toArray, List.set_cons_zero, List.set_cons_succ]
        refine wpAnyH_ready (rs := [17]) (by kernel_rfl) (by simp) ?_
        refine AllReadyH.cons rfl (fun K hK => ?_) AllReadyH.nil
        go_simp
        refine Calls.mono (OrderR_any pl n cap l _ (HLs.out.below (bel_next HU.out hS5)) (by omega)) ?_
        rintro e w' ⟨v9, rfl, hO9, hb⟩
        obtain ⟨q2, cq2, hv9, hdo, _⟩ := hO9.open
        subst hv9
        replace DO := hide (DO.out.below hb)
        have DP := hide hdo
        clear hdo hO9
        try go_wp2_with fail
        refine hK.out _ _ ?hs18 (fun hS6 => ?_)
        case hs18 => exact bel_next hS5 hb
        clear hK K hb
        try simp only [Act.put, List.setIfInBounds_toArray, List.set_cons_zero, List.set_cons_succ]
        refine wpAnyH_ready (rs := [18]) (by kernel_rfl) (by simp) ?_
        refine AllReadyH.cons rfl (fun K hK => ?_) AllReadyH.nil
        go_simp
        have hdd := Dots_any q1 q2 _ cq1 _ cq2 (ordD l) (ordD l) _ DO.out DP.out
        rw [decide_eq_true rfl] at hdd
        refine Calls.mono hdd ?_
        clear hdd
        rintro e w' ⟨rfl, hb⟩
        try go_wp2_with fail
        refine hK.out _ _ ?hs19 (fun hS7 => ?_)
        case hs19 => exact bel_next hS6 hb
        clear hK K hb
        try simp only [Act.put, List.setIfInBounds_toArray, List.set_cons_zero, List.set_cons_succ]
        refine takeInH 19 45 ?v20 rfl rfl (by kernel_rfl) (by kernel_rfl) (by kernel_rfl) (fun _ _ _ h => h) (by kernel_rfl) hS7 ?hy20 ?_
        case hy20 => (intro W hW; clear hW; go_simp; try rfl)
        simp only [Act.put, List.setIfInBounds_toArray, List.set_cons_zero, List.set_cons_succ]
        refine takeInH 20 46 ?v21 rfl rfl (by kernel_rfl) (by kernel_rfl) (by kernel_rfl) (fun _ _ _ h => h) (by kernel_rfl) hS7 ?hy21 ?_
        case hy21 => (intro W hW; clear hW; go_simp; try rfl)
        simp only [Act.put, List.setIfInBounds_toArray, List.set_cons_zero, List.set_cons_succ]
        refine wpAnyH_done (by kernel_rfl) ?_ _
        have hb := hS7
        replace s0 := bcell hb s0
        replace s1 := bcell hb s1
        replace d0 := bcell hb d0
        replace d1 := bcell hb d1
        replace x0 := bcell hb x0
        replace x1 := bcell hb x1
        replace NX := hide (NX.out.below hb)
        replace DX := hide (DX.out.below hb)
        replace HU := hide (bel_next HU.out hb)
        clear hb hS0 hS1 hS2 hS3 hS4 hS5 hS6 hS7 DO DP
        generalize w' = u2 at *
        go_wp2_with fail
        refine Calls.mono (HQe.out _ (HN.out.below HU.out) (HD.out.below HU.out)) ?_
        rintro e u ⟨rfl, hb⟩
        replace s0 := bcell hb s0
        replace s1 := bcell hb s1
        replace d0 := bcell hb d0
        replace d1 := bcell hb d1
        replace x0 := bcell hb x0
        replace x1 := bcell hb x1
        replace NX := hide (NX.out.below hb)
        replace DX := hide (DX.out.below hb)
        replace HU := hide (bel_next HU.out hb)
        clear hb
        go_wp2_with fail
        refine Calls.mono (HHa.out _ (HN.out.below HU.out) (HD.out.below HU.out)) ?_
        rintro e u ⟨rfl, hb⟩
        replace s0 := bcell hb s0
        replace s1 := bcell hb s1
        replace d0 := bcell hb d0
        replace d1 := bcell hb d1
        replace x0 := bcell hb x0
        replace x1 := bcell hb x1
        replace NX := hide (NX.out.below hb)
        replace DX := hide (DX.out.below hb)
        replace HU := hide (bel_next HU.out hb)
        clear hb
        go_wp2_with fail
        refine Calls.mono (SameR_any p1 p2 none none k1 e1 k2 e2 0 0 0 0 [] [] [] [] _ NX.out DX.out (NS.nil _ _) (DS.nil _ _)) ?_
        rintro e u ⟨rfl, hb⟩
        replace s0 := bcell hb s0
        replace s1 := bcell hb s1
        replace d0 := bcell hb d0
        replace d1 := bcell hb d1
        replace x0 := bcell hb x0
        replace x1 := bcell hb x1
        replace NX := hide (NX.out.below hb)
        replace DX := hide (DX.out.below hb)
        replace HU := hide (bel_next HU.out hb)
        clear hb
        go_wp2_with fail
        refine Calls.mono (awake4 _) ?_
        rintro e u ⟨rfl, hb⟩
        replace s0 := bcell hb s0
        replace s1 := bcell hb s1
        replace d0 := bcell hb d0
        replace d1 := bcell hb d1
        replace x0 := bcell hb x0
        replace x1 := bcell hb x1
        replace NX := hide (NX.out.below hb)
        replace DX := hide (DX.out.below hb)
        replace HU := hide (bel_next HU.out hb)
        clear hb
        go_wp2
        go_ret
        exact ⟨rfl, HU.out⟩
      · rcases ha : l.all mayD with _ | _
        · have hk := chkS_good hs
          have hgd := seen_good hs
          rw [← hk] at HCk
          rw [hs] at HQe HHa
          clear hk
          rw [ha] at HAl
          generalize hasB c m (r, s) = bh at *
          go_enter Try.func3, Try.ntmps3
          go_wp2_with fail
          refine Calls.mono (light4 pa pm na ca nm cm _ true (decide_eq_true hli) hna hnm) ?_
          rintro e u ⟨rfl, hb⟩
          replace s0 := bcell hb s0
          replace s1 := bcell hb s1
          replace d0 := bcell hb d0
          replace d1 := bcell hb d1
          replace HU := hide (bel_next HU.out hb)
          clear hb
          go_wp2_with fail
          refine Calls.mono (Add_not pa pm na ca nm cm c m pl n cap l _ (HN.out.below HU.out) (HD.out.below HU.out) (HLs.out.below HU.out) hs ha) ?_
          rintro e u ⟨⟨p1, k1, e1, p2, k2, e2, rfl, hns, hcp1, hds, hcp2, _, _⟩, hb⟩
          replace s0 := bcell hb s0
          replace s1 := bcell hb s1
          replace d0 := bcell hb d0
          replace d1 := bcell hb d1
          replace HU := hide (bel_next HU.out hb)
          have NX := hide hns
          have DX := hide hds
          clear hb hns hds
          go_wp2
          have x0 : (u.alloc (.cells #[.slice p1 k1 e1, .slice p2 k2 e2] 26)).cell? ⟨u.heap.size, 0, none⟩ = some (.slice p1 k1 e1) := cell_new u _ _ _ rfl 0 _ rfl
          have x1 : (u.alloc (.cells #[.slice p1 k1 e1, .slice p2 k2 e2] 26)).cell? ⟨u.heap.size, 1, none⟩ = some (.slice p2 k2 e2) := cell_new u _ _ _ rfl 1 _ rfl
          replace s0 := bcell (bel1 u (.cells #[.slice p1 k1 e1, .slice p2 k2 e2] 26)) s0
          replace s1 := bcell (bel1 u (.cells #[.slice p1 k1 e1, .slice p2 k2 e2] 26)) s1
          replace d0 := bcell (bel1 u (.cells #[.slice p1 k1 e1, .slice p2 k2 e2] 26)) d0
          replace d1 := bcell (bel1 u (.cells #[.slice p1 k1 e1, .slice p2 k2 e2] 26)) d1
          replace NX := hide (NX.out.below (bel1 u (.cells #[.slice p1 k1 e1, .slice p2 k2 e2] 26)))
          replace DX := hide (DX.out.below (bel1 u (.cells #[.slice p1 k1 e1, .slice p2 k2 e2] 26)))
          replace HU := hide (bel_next HU.out (bel1 u (.cells #[.slice p1 k1 e1, .slice p2 k2 e2] 26)))
          obtain ⟨gx, hgx⟩ : ∃ gx, gx = u.heap.size := ⟨_, rfl⟩
          generalize u.alloc (.cells #[.slice p1 k1 e1, .slice p2 k2 e2] 26) = u1 at *
          rw [← hgx] at *
          refine wp_region_held_drew (S := fun W => Below u1.heap.size u1 W) (by kernel_rfl) ((Below.refl _ u1).drew) (fun hS0 => ?_)
          refine takeInH 0 26 ?v22 rfl rfl (by kernel_rfl) (by kernel_rfl) (by kernel_rfl) (fun _ _ _ h => h) (by kernel_rfl) hS0 ?hy22 ?_
          case hy22 => (intro W hW; have e0 := bcell hW s0; have e1 := bcell hW s1; have e2 := bcell hW d0; have e3 := bcell hW d1; clear hW; go_simp; try rfl)
          simp only [Act.put, List.setIfInBounds_toArray, List.set_cons_zero, List.set_cons_succ]
          refine takeInH 2 28 ?v23 rfl rfl (by kernel_rfl) (by kernel_rfl) (by kernel_rfl) (fun _ _ _ h => h) (by kernel_rfl) hS0 ?hy23 ?_
          case hy23 => (intro W hW; have e0 := bcell hW s0; have e1 := bcell hW s1; have e2 := bcell hW d0; have e3 := bcell hW d1; clear hW; go_simp; try rfl)
          simp only [Act.put, List.setIfInBounds_toArray, List.set_cons_zero, List.set_cons_succ]
          refine wpAnyH_ready (rs := [1]) (by kernel_rfl) (by simp) ?_
          refine AllReadyH.cons rfl (fun K hK => ?_) AllReadyH.nil
          go_simp
          refine (HM.out _).mono ?_
          rintro e w' ⟨rfl, hg⟩
          have hb := hg.bel
          clear hg
          try go_wp2_with fail
          refine hK.out _ _ ?hs24 (fun hS1 => ?_)
          case hs24 => exact bel_next hS0 hb
          clear hK K hb
          try simp only [Act.put, List.setIfInBounds_toArray, List.set_cons_zero, List.set_cons_succ]
          refine wpAnyH_ready (rs := [3]) (by kernel_rfl) (by simp) ?_
          refine AllReadyH.cons rfl (fun K hK => ?_) AllReadyH.nil
          go_simp
          refine (HMR.out _).mono ?_
          rintro e w' ⟨rfl, hg⟩
          have hb := hg.bel
          clear hg
          try go_wp2_with fail
          refine hK.out _ _ ?hs25 (fun hS2 => ?_)
          case hs25 => exact bel_next hS1 hb
          clear hK K hb
          try simp only [Act.put, List.setIfInBounds_toArray, List.set_cons_zero, List.set_cons_succ]
          refine takeInH 4 30 ?v26 rfl rfl (by kernel_rfl) (by kernel_rfl) (by kernel_rfl) (fun _ _ _ h => h) (by kernel_rfl) hS2 ?hy26 ?_
          case hy26 => (intro W hW; clear hW; go_simp; try rfl)
          simp only [Act.put, List.setIfInBounds_toArray, List.set_cons_zero, List.set_cons_succ]
          refine takeInH 5 31 ?v27 rfl rfl (by kernel_rfl) (by kernel_rfl) (by kernel_rfl) (fun _ _ _ h => h) (by kernel_rfl) hS2 ?hy27 ?_
          case hy27 => (intro W hW; clear hW; go_simp; try rfl)
          simp only [Act.put, List.setIfInBounds_toArray, List.set_cons_zero, List.set_cons_succ]
          refine takeInH 6 32 ?v28 rfl rfl (by kernel_rfl) (by kernel_rfl) (by kernel_rfl) (fun _ _ _ h => h) (by kernel_rfl) hS2 ?hy28 ?_
          case hy28 => (intro W hW; have e0 := bcell hW s0; have e1 := bcell hW s1; have e2 := bcell hW d0; have e3 := bcell hW d1; clear hW; go_simp; try rfl)
          simp only [Act.put, List.setIfInBounds_toArray, List.set_cons_zero, List.set_cons_succ]
          refine takeInH 9 35 ?v29 rfl rfl (by kernel_rfl) (by kernel_rfl) (by kernel_rfl) (fun _ _ _ h => h) (by kernel_rfl) hS2 ?hy29 ?_
          case hy29 => (intro W hW; have e0 := bcell hW s0; have e1 := bcell hW s1; have e2 := bcell hW d0; have e3 := bcell hW d1; clear hW; go_simp; try rfl)
          simp only [Act.put, List.setIfInBounds_toArray, List.set_cons_zero, List.set_cons_succ]
          refine wpAnyH_ready (rs := [7]) (by kernel_rfl) (by simp) ?_
          refine AllReadyH.cons rfl (fun K hK => ?_) AllReadyH.nil
          go_simp
          refine (HCk.out _ (HN.out.below (bel_next HU.out hS2)) (HD.out.below (bel_next HU.out hS2))).mono ?_
          rintro e w' ⟨rfl, hb⟩
          try go_wp2_with fail
          refine hK.out _ _ ?hs30 (fun hS3 => ?_)
          case hs30 => exact bel_next hS2 hb
          clear hK K hb
          try simp only [Act.put, List.setIfInBounds_toArray, List.set_cons_zero, List.set_cons_succ]
          refine takeInH 8 34 ?v31 rfl rfl (by kernel_rfl) (by kernel_rfl) (by kernel_rfl) (fun _ _ _ h => h) (by kernel_rfl) hS3 ?hy31 ?_
          case hy31 => (intro W hW; clear hW; go_simp; try rfl)
          simp only [Act.put, List.setIfInBounds_toArray, List.set_cons_zero, List.set_cons_succ]
          refine wpAnyH_ready (rs := [10]) (by kernel_rfl) (by simp) ?_
          refine AllReadyH.cons rfl (fun K hK => ?_) AllReadyH.nil
          go_simp
          refine (HQe.out _ (HN.out.below (bel_next HU.out hS3)) (HD.out.below (bel_next HU.out hS3))).mono ?_
          rintro e w' ⟨rfl, hb⟩
          try go_wp2_with fail
          refine hK.out _ _ ?hs32 (fun hS4 => ?_)
          case hs32 => exact bel_next hS3 hb
          clear hK K hb
          try simp only [Act.put, List.setIfInBounds_toArray, List.set_cons_zero, List.set_cons_succ]
          refine takeInH 11 37 ?v33 rfl rfl (by kernel_rfl) (by kernel_rfl) (by kernel_rfl) (fun _ _ _ h => h) (by kernel_rfl) hS4 ?hy33 ?_
          case hy33 => (intro W hW; clear hW; go_simp; try rfl)
          simp only [Act.put, List.setIfInBounds_toArray, List.set_cons_zero, List.set_cons_succ]
          refine takeInH 12 38 ?v34 rfl rfl (by kernel_rfl) (by kernel_rfl) (by kernel_rfl) (fun _ _ _ h => h) (by kernel_rfl) hS4 ?hy34 ?_
          case hy34 => (intro W hW; clear hW; go_simp; try rfl)
          simp only [Act.put, List.setIfInBounds_toArray, List.set_cons_zero, List.set_cons_succ]
          refine takeInH 13 39 ?v35 rfl rfl (by kernel_rfl) (by kernel_rfl) (by kernel_rfl) (fun _ _ _ h => h) (by kernel_rfl) hS4 ?hy35 ?_
          case hy35 => (intro W hW; clear hW; go_simp; try rfl)
          simp only [Act.put, List.setIfInBounds_toArray, List.set_cons_zero, List.set_cons_succ]
          refine takeInH 14 40 ?v36 rfl rfl (by kernel_rfl) (by kernel_rfl) (by kernel_rfl) (fun _ _ _ h => h) (by kernel_rfl) hS4 ?hy36 ?_
          case hy36 => (intro W hW; clear hW; go_simp; try rfl)
          simp only [Act.put, List.setIfInBounds_toArray, List.set_cons_zero, List.set_cons_succ]
          refine takeInH 16 42 ?v37 rfl rfl (by kernel_rfl) (by kernel_rfl) (by kernel_rfl) (fun _ _ _ h => h) (by kernel_rfl) hS4 ?hy37 ?_
          case hy37 => (intro W hW; clear hW; go_simp; try rfl)
          simp only [Act.put, List.setIfInBounds_toArray, List.set_cons_zero, List.set_cons_succ]
          refine wpAnyH_ready (rs := [15]) (by kernel_rfl) (by simp) ?_
          refine AllReadyH.cons rfl (fun K hK => ?_) AllReadyH.nil
          go_simp
          refine Calls.mono (Order_dots pl n cap l _ (HLs.out.below (bel_next HU.out hS4)) (by omega)) ?_
          rintro e w' ⟨q1, cq1, rfl, hdo, _, hb⟩
          have DO := hide hdo
          clear hdo
          try go_wp2_with fail
          refine hK.out _ _ ?hs38 (fun hS5 => ?_)
          case hs38 => exact bel_next hS4 hb
          clear hK K hb
          try simp only [Act.put, List.setIfInBounds_toArray, List.set_cons_zero, List.set_cons_succ]
          refine wpAnyH_ready (rs := [17]) (by kernel_rfl) (by simp) ?_
          refine AllReadyH.cons rfl (fun K hK => ?_) AllReadyH.nil
          go_simp
          refine Calls.mono (OrderR_any pl n cap l _ (HLs.out.below (bel_next HU.out hS5)) (by omega)) ?_
          rintro e w' ⟨v9, rfl, hO9, hb⟩
          obtain ⟨q2, cq2, hv9, hdo, _⟩ := hO9.open
          subst hv9
          replace DO := hide (DO.out.below hb)
          have DP := hide hdo
          clear hdo hO9
          try go_wp2_with fail
          refine hK.out _ _ ?hs39 (fun hS6 => ?_)
          case hs39 => exact bel_next hS5 hb
          clear hK K hb
          try simp only [Act.put, List.setIfInBounds_toArray, List.set_cons_zero, List.set_cons_succ]
          refine wpAnyH_ready (rs := [18]) (by kernel_rfl) (by simp) ?_
          refine AllReadyH.cons rfl (fun K hK => ?_) AllReadyH.nil
          go_simp
          have hdd := Dots_any q1 q2 _ cq1 _ cq2 (ordD l) (ordD l) _ DO.out DP.out
          rw [decide_eq_true rfl] at hdd
          refine Calls.mono hdd ?_
          clear hdd
          rintro e w' ⟨rfl, hb⟩
          try go_wp2_with fail
          refine hK.out _ _ ?hs40 (fun hS7 => ?_)
          case hs40 => exact bel_next hS6 hb
          clear hK K hb
          try simp only [Act.put, List.setIfInBounds_toArray, List.set_cons_zero, List.set_cons_succ]
          refine takeInH 19 45 ?v41 rfl rfl (by kernel_rfl) (by kernel_rfl) (by kernel_rfl) (fun _ _ _ h => h) (by kernel_rfl) hS7 ?hy41 ?_
          case hy41 => (intro W hW; clear hW; go_simp; try rfl)
          simp only [Act.put, List.setIfInBounds_toArray, List.set_cons_zero, List.set_cons_succ]
          refine takeInH 20 46 ?v42 rfl rfl (by kernel_rfl) (by kernel_rfl) (by kernel_rfl) (fun _ _ _ h => h) (by kernel_rfl) hS7 ?hy42 ?_
          case hy42 => (intro W hW; clear hW; go_simp; try rfl)
          simp only [Act.put, List.setIfInBounds_toArray, List.set_cons_zero, List.set_cons_succ]
          refine wpAnyH_done (by kernel_rfl) ?_ _
          have hb := hS7
          replace s0 := bcell hb s0
          replace s1 := bcell hb s1
          replace d0 := bcell hb d0
          replace d1 := bcell hb d1
          replace x0 := bcell hb x0
          replace x1 := bcell hb x1
          replace NX := hide (NX.out.below hb)
          replace DX := hide (DX.out.below hb)
          replace HU := hide (bel_next HU.out hb)
          clear hb hS0 hS1 hS2 hS3 hS4 hS5 hS6 hS7 DO DP
          generalize w' = u2 at *
          go_wp2_with fail
          refine Calls.mono (HQe.out _ (HN.out.below HU.out) (HD.out.below HU.out)) ?_
          rintro e u ⟨rfl, hb⟩
          replace s0 := bcell hb s0
          replace s1 := bcell hb s1
          replace d0 := bcell hb d0
          replace d1 := bcell hb d1
          replace x0 := bcell hb x0
          replace x1 := bcell hb x1
          replace NX := hide (NX.out.below hb)
          replace DX := hide (DX.out.below hb)
          replace HU := hide (bel_next HU.out hb)
          clear hb
          go_wp2
          refine wp_region_held_drew (S := fun W => Below u.heap.size u W) (by kernel_rfl) ((Below.refl _ u).drew) (fun hS0 => ?_)
          refine takeInH 0 66 ?v43 rfl rfl (by kernel_rfl) (by kernel_rfl) (by kernel_rfl) (fun _ _ _ h => h) (by kernel_rfl) hS0 ?hy43 ?_
          case hy43 => (intro W hW; have e0 := bcell hW s0; have e1 := bcell hW s1; have e2 := bcell hW d0; have e3 := bcell hW d1; clear hW; go_simp; try rfl)
          simp only [Act.put, List.setIfInBounds_toArray, List.set_cons_zero, List.set_cons_succ]
          refine takeInH 1 67 ?v44 rfl rfl (by kernel_rfl) (by kernel_rfl) (by kernel_rfl) (fun _ _ _ h => h) (by kernel_rfl) hS0 ?hy44 ?_
          case hy44 => (intro W hW; have e0 := bcell hW s0; have e1 := bcell hW s1; have e2 := bcell hW d0; have e3 := bcell hW d1; clear hW; go_simp; try rfl)
          simp only [Act.put, List.setIfInBounds_toArray, List.set_cons_zero, List.set_cons_succ]
          refine takeInH 3 69 ?v45 rfl rfl (by kernel_rfl) (by kernel_rfl) (by kernel_rfl) (fun _ _ _ h => h) (by kernel_rfl) hS0 ?hy45 ?_
          case hy45 => (intro W hW; have e0 := bcell hW s0; have e1 := bcell hW s1; have e2 := bcell hW d0; have e3 := bcell hW d1; clear hW; go_simp; try rfl)
          simp only [Act.put, List.setIfInBounds_toArray, List.set_cons_zero, List.set_cons_succ]
          refine takeInH 4 70 ?v46 rfl rfl (by kernel_rfl) (by kernel_rfl) (by kernel_rfl) (fun _ _ _ h => h) (by kernel_rfl) hS0 ?hy46 ?_
          case hy46 => (intro W hW; have e0 := bcell hW s0; have e1 := bcell hW s1; have e2 := bcell hW d0; have e3 := bcell hW d1; clear hW; go_simp; try rfl)
          simp only [Act.put, List.setIfInBounds_toArray, List.set_cons_zero, List.set_cons_succ]
          refine wpAnyH_ready (rs := [2]) (by kernel_rfl) (by simp) ?_
          refine AllReadyH.cons rfl (fun K hK => ?_) AllReadyH.nil
          go_simp
          refine (HHa.out _ (HN.out.below (bel_next HU.out hS0)) (HD.out.below (bel_next HU.out hS0))).mono ?_
          rintro e w' ⟨rfl, hb⟩
          try go_wp2_with fail
          refine hK.out _ _ ?hs47 (fun hS1 => ?_)
          case hs47 => exact bel_next hS0 hb
          clear hK K hb
          try simp only [Act.put, List.setIfInBounds_toArray, List.set_cons_zero, List.set_cons_succ]
          refine wpAnyH_ready (rs := [5]) (by kernel_rfl) (by simp) ?_
          refine AllReadyH.cons rfl (fun K hK => ?_) AllReadyH.nil
          go_simp
          refine (HHr.out _ (HN.out.below (bel_next HU.out hS1)) (HD.out.below (bel_next HU.out hS1))).mono ?_
          rintro e w' ⟨rfl, hb⟩
          try go_wp2_with fail
          refine hK.out _ _ ?hs48 (fun hS2 => ?_)
          case hs48 => exact bel_next hS1 hb
          clear hK K hb
          try simp only [Act.put, List.setIfInBounds_toArray, List.set_cons_zero, List.set_cons_succ]
          refine takeInH 6 72 ?v49 rfl rfl (by kernel_rfl) (by kernel_rfl) (by kernel_rfl) (fun _ _ _ h => h) (by kernel_rfl) hS2 ?hy49 ?_
          case hy49 => (intro W hW; clear hW; go_simp; try rfl)
          simp only [Act.put, List.setIfInBounds_toArray, List.set_cons_zero, List.set_cons_succ]
          refine wpAnyH_done (by kernel_rfl) ?_ _
          have hb := hS2
          replace s0 := bcell hb s0
          replace s1 := bcell hb s1
          replace d0 := bcell hb d0
          replace d1 := bcell hb d1
          replace x0 := bcell hb x0
          replace x1 := bcell hb x1
          replace NX := hide (NX.out.below hb)
          replace DX := hide (DX.out.below hb)
          replace HU := hide (bel_next HU.out hb)
          clear hb hS0 hS1 hS2
          generalize w' = u3 at *
          go_wp2_with fail
          refine Calls.mono (HAl.out _ (HLs.out.below HU.out)) ?_
          rintro e u ⟨rfl, hb⟩
          replace s0 := bcell hb s0
          replace s1 := bcell hb s1
          replace d0 := bcell hb d0
          replace d1 := bcell hb d1
          replace x0 := bcell hb x0
          replace x1 := bcell hb x1
          replace NX := hide (NX.out.below hb)
          replace DX := hide (DX.out.below hb)
          replace HU := hide (bel_next HU.out hb)
          clear hb
          go_wp2_with fail
          refine Calls.mono (SameR_any p1 p2 none none k1 e1 k2 e2 0 0 0 0 [] [] [] [] _ NX.out DX.out (NS.nil _ _) (DS.nil _ _)) ?_
          rintro e u ⟨rfl, hb⟩
          replace s0 := bcell hb s0
          replace s1 := bcell hb s1
          replace d0 := bcell hb d0
          replace d1 := bcell hb d1
          replace x0 := bcell hb x0
          replace x1 := bcell hb x1
          replace NX := hide (NX.out.below hb)
          replace DX := hide (DX.out.below hb)
          replace HU := hide (bel_next HU.out hb)
          clear hb
          go_wp2_with fail
          refine Calls.mono (awake4 _) ?_
          rintro e u ⟨rfl, hb⟩
          replace s0 := bcell hb s0
          replace s1 := bcell hb s1
          replace d0 := bcell hb d0
          replace d1 := bcell hb d1
          replace x0 := bcell hb x0
          replace x1 := bcell hb x1
          replace NX := hide (NX.out.below hb)
          replace DX := hide (DX.out.below hb)
          replace HU := hide (bel_next HU.out hb)
          clear hb
          go_wp2
          go_ret
          exact ⟨rfl, HU.out⟩
        · have hk := chkS_good hs
          have hgd := seen_good hs
          rw [← hk] at HCk
          rw [hs] at HQe HHa
          clear hk
          rw [ha] at HAl
          have HAf := hide (addF_is hs ha)
          have HAm : Hid (∀ x ∈ l, mayD x = true) := fun x hx => List.all_eq_true.1 ha x hx
          generalize hasB c m (r, s) = bh at *
          go_enter Try.func3, Try.ntmps3
          go_wp2_with fail
          refine Calls.mono (light4 pa pm na ca nm cm _ true (decide_eq_true hli) hna hnm) ?_
          rintro e u ⟨rfl, hb⟩
          replace s0 := bcell hb s0
          replace s1 := bcell hb s1
          replace d0 := bcell hb d0
          replace d1 := bcell hb d1
          replace HU := hide (bel_next HU.out hb)
          clear hb
          go_wp2_with fail
          refine Calls.mono (Add_good pa pm na ca nm cm c m pl n cap l _ (HN.out.below HU.out) (HD.out.below HU.out) (HLs.out.below HU.out) hs ha HCm.out.2.2 HCl.out.2.2 (by omega)) ?_
          rintro e u ⟨⟨p1, k1, e1, p2, k2, e2, rfl, hns, hcp1, hds, hcp2, _, _⟩, hb⟩
          replace s0 := bcell hb s0
          replace s1 := bcell hb s1
          replace d0 := bcell hb d0
          replace d1 := bcell hb d1
          replace HU := hide (bel_next HU.out hb)
          have NX := hide hns
          have DX := hide hds
          clear hb hns hds
          go_wp2
          have x0 : (u.alloc (.cells #[.slice p1 k1 e1, .slice p2 k2 e2] 26)).cell? ⟨u.heap.size, 0, none⟩ = some (.slice p1 k1 e1) := cell_new u _ _ _ rfl 0 _ rfl
          have x1 : (u.alloc (.cells #[.slice p1 k1 e1, .slice p2 k2 e2] 26)).cell? ⟨u.heap.size, 1, none⟩ = some (.slice p2 k2 e2) := cell_new u _ _ _ rfl 1 _ rfl
          replace s0 := bcell (bel1 u (.cells #[.slice p1 k1 e1, .slice p2 k2 e2] 26)) s0
          replace s1 := bcell (bel1 u (.cells #[.slice p1 k1 e1, .slice p2 k2 e2] 26)) s1
          replace d0 := bcell (bel1 u (.cells #[.slice p1 k1 e1, .slice p2 k2 e2] 26)) d0
          replace d1 := bcell (bel1 u (.cells #[.slice p1 k1 e1, .slice p2 k2 e2] 26)) d1
          replace NX := hide (NX.out.below (bel1 u (.cells #[.slice p1 k1 e1, .slice p2 k2 e2] 26)))
          replace DX := hide (DX.out.below (bel1 u (.cells #[.slice p1 k1 e1, .slice p2 k2 e2] 26)))
          replace HU := hide (bel_next HU.out (bel1 u (.cells #[.slice p1 k1 e1, .slice p2 k2 e2] 26)))
          obtain ⟨gx, hgx⟩ : ∃ gx, gx = u.heap.size := ⟨_, rfl⟩
          generalize u.alloc (.cells #[.slice p1 k1 e1, .slice p2 k2 e2] 26) = u1 at *
          rw [← hgx] at *
          refine wp_region_held_drew (S := fun W => Below u1.heap.size u1 W) (by kernel_rfl) ((Below.refl _ u1).drew) (fun hS0 => ?_)
          refine takeInH 0 26 ?v50 rfl rfl (by kernel_rfl) (by kernel_rfl) (by kernel_rfl) (fun _ _ _ h => h) (by kernel_rfl) hS0 ?hy50 ?_
          case hy50 => (intro W hW; have e0 := bcell hW s0; have e1 := bcell hW s1; have e2 := bcell hW d0; have e3 := bcell hW d1; clear hW; go_simp; try rfl)
          simp only [Act.put, List.setIfInBounds_toArray, List.set_cons_zero, List.set_cons_succ]
          refine takeInH 2 28 ?v51 rfl rfl (by kernel_rfl) (by kernel_rfl) (by kernel_rfl) (fun _ _ _ h => h) (by kernel_rfl) hS0 ?hy51 ?_
          case hy51 => (intro W hW; have e0 := bcell hW s0; have e1 := bcell hW s1; have e2 := bcell hW d0; have e3 := bcell hW d1; clear hW; go_simp; try rfl)
          simp only [Act.put, List.setIfInBounds_toArray, List.set_cons_zero, List.set_cons_succ]
          refine wpAnyH_ready (rs := [1]) (by kernel_rfl) (by simp) ?_
          refine AllReadyH.cons rfl (fun K hK => ?_) AllReadyH.nil
          go_simp
          refine (HM.out _).mono ?_
          rintro e w' ⟨rfl, hg⟩
          have hb := hg.bel
          clear hg
          try go_wp2_with fail
          refine hK.out _ _ ?hs52 (fun hS1 => ?_)
          case hs52 => exact bel_next hS0 hb
          clear hK K hb
          try simp only [Act.put, List.setIfInBounds_toArray, List.set_cons_zero, List.set_cons_succ]
          refine wpAnyH_ready (rs := [3]) (by kernel_rfl) (by simp) ?_
          refine AllReadyH.cons rfl (fun K hK => ?_) AllReadyH.nil
          go_simp
          refine (HMR.out _).mono ?_
          rintro e w' ⟨rfl, hg⟩
          have hb := hg.bel
          clear hg
          try go_wp2_with fail
          refine hK.out _ _ ?hs53 (fun hS2 => ?_)
          case hs53 => exact bel_next hS1 hb
          clear hK K hb
          try simp only [Act.put, List.setIfInBounds_toArray, List.set_cons_zero, List.set_cons_succ]
          refine takeInH 4 30 ?v54 rfl rfl (by kernel_rfl) (by kernel_rfl) (by kernel_rfl) (fun _ _ _ h => h) (by kernel_rfl) hS2 ?hy54 ?_
          case hy54 => (intro W hW; clear hW; go_simp; try rfl)
          simp only [Act.put, List.setIfInBounds_toArray, List.set_cons_zero, List.set_cons_succ]
          refine takeInH 5 31 ?v55 rfl rfl (by kernel_rfl) (by kernel_rfl) (by kernel_rfl) (fun _ _ _ h => h) (by kernel_rfl) hS2 ?hy55 ?_
          case hy55 => (intro W hW; clear hW; go_simp; try rfl)
          simp only [Act.put, List.setIfInBounds_toArray, List.set_cons_zero, List.set_cons_succ]
          refine takeInH 6 32 ?v56 rfl rfl (by kernel_rfl) (by kernel_rfl) (by kernel_rfl) (fun _ _ _ h => h) (by kernel_rfl) hS2 ?hy56 ?_
          case hy56 => (intro W hW; have e0 := bcell hW s0; have e1 := bcell hW s1; have e2 := bcell hW d0; have e3 := bcell hW d1; clear hW; go_simp; try rfl)
          simp only [Act.put, List.setIfInBounds_toArray, List.set_cons_zero, List.set_cons_succ]
          refine takeInH 9 35 ?v57 rfl rfl (by kernel_rfl) (by kernel_rfl) (by kernel_rfl) (fun _ _ _ h => h) (by kernel_rfl) hS2 ?hy57 ?_
          case hy57 => (intro W hW; have e0 := bcell hW s0; have e1 := bcell hW s1; have e2 := bcell hW d0; have e3 := bcell hW d1; clear hW; go_simp; try rfl)
          simp only [Act.put, List.setIfInBounds_toArray, List.set_cons_zero, List.set_cons_succ]
          refine wpAnyH_ready (rs := [7]) (by kernel_rfl) (by simp) ?_
          refine AllReadyH.cons rfl (fun K hK => ?_) AllReadyH.nil
          go_simp
          refine (HCk.out _ (HN.out.below (bel_next HU.out hS2)) (HD.out.below (bel_next HU.out hS2))).mono ?_
          rintro e w' ⟨rfl, hb⟩
          try go_wp2_with fail
          refine hK.out _ _ ?hs58 (fun hS3 => ?_)
          case hs58 => exact bel_next hS2 hb
          clear hK K hb
          try simp only [Act.put, List.setIfInBounds_toArray, List.set_cons_zero, List.set_cons_succ]
          refine takeInH 8 34 ?v59 rfl rfl (by kernel_rfl) (by kernel_rfl) (by kernel_rfl) (fun _ _ _ h => h) (by kernel_rfl) hS3 ?hy59 ?_
          case hy59 => (intro W hW; clear hW; go_simp; try rfl)
          simp only [Act.put, List.setIfInBounds_toArray, List.set_cons_zero, List.set_cons_succ]
          refine wpAnyH_ready (rs := [10]) (by kernel_rfl) (by simp) ?_
          refine AllReadyH.cons rfl (fun K hK => ?_) AllReadyH.nil
          go_simp
          refine (HQe.out _ (HN.out.below (bel_next HU.out hS3)) (HD.out.below (bel_next HU.out hS3))).mono ?_
          rintro e w' ⟨rfl, hb⟩
          try go_wp2_with fail
          refine hK.out _ _ ?hs60 (fun hS4 => ?_)
          case hs60 => exact bel_next hS3 hb
          clear hK K hb
          try simp only [Act.put, List.setIfInBounds_toArray, List.set_cons_zero, List.set_cons_succ]
          refine takeInH 11 37 ?v61 rfl rfl (by kernel_rfl) (by kernel_rfl) (by kernel_rfl) (fun _ _ _ h => h) (by kernel_rfl) hS4 ?hy61 ?_
          case hy61 => (intro W hW; clear hW; go_simp; try rfl)
          simp only [Act.put, List.setIfInBounds_toArray, List.set_cons_zero, List.set_cons_succ]
          refine takeInH 12 38 ?v62 rfl rfl (by kernel_rfl) (by kernel_rfl) (by kernel_rfl) (fun _ _ _ h => h) (by kernel_rfl) hS4 ?hy62 ?_
          case hy62 => (intro W hW; clear hW; go_simp; try rfl)
          simp only [Act.put, List.setIfInBounds_toArray, List.set_cons_zero, List.set_cons_succ]
          refine takeInH 13 39 ?v63 rfl rfl (by kernel_rfl) (by kernel_rfl) (by kernel_rfl) (fun _ _ _ h => h) (by kernel_rfl) hS4 ?hy63 ?_
          case hy63 => (intro W hW; clear hW; go_simp; try rfl)
          simp only [Act.put, List.setIfInBounds_toArray, List.set_cons_zero, List.set_cons_succ]
          refine takeInH 14 40 ?v64 rfl rfl (by kernel_rfl) (by kernel_rfl) (by kernel_rfl) (fun _ _ _ h => h) (by kernel_rfl) hS4 ?hy64 ?_
          case hy64 => (intro W hW; clear hW; go_simp; try rfl)
          simp only [Act.put, List.setIfInBounds_toArray, List.set_cons_zero, List.set_cons_succ]
          refine takeInH 16 42 ?v65 rfl rfl (by kernel_rfl) (by kernel_rfl) (by kernel_rfl) (fun _ _ _ h => h) (by kernel_rfl) hS4 ?hy65 ?_
          case hy65 => (intro W hW; clear hW; go_simp; try rfl)
          simp only [Act.put, List.setIfInBounds_toArray, List.set_cons_zero, List.set_cons_succ]
          refine wpAnyH_ready (rs := [15]) (by kernel_rfl) (by simp) ?_
          refine AllReadyH.cons rfl (fun K hK => ?_) AllReadyH.nil
          go_simp
          refine Calls.mono (Order_dots pl n cap l _ (HLs.out.below (bel_next HU.out hS4)) (by omega)) ?_
          rintro e w' ⟨q1, cq1, rfl, hdo, _, hb⟩
          have DO := hide hdo
          clear hdo
          try go_wp2_with fail
          refine hK.out _ _ ?hs66 (fun hS5 => ?_)
          case hs66 => exact bel_next hS4 hb
          clear hK K hb
          try simp only [Act.put, List.setIfInBounds_toArray, List.set_cons_zero, List.set_cons_succ]
          refine wpAnyH_ready (rs := [17]) (by kernel_rfl) (by simp) ?_
          refine AllReadyH.cons rfl (fun K hK => ?_) AllReadyH.nil
          go_simp
          refine Calls.mono (OrderR_any pl n cap l _ (HLs.out.below (bel_next HU.out hS5)) (by omega)) ?_
          rintro e w' ⟨v9, rfl, hO9, hb⟩
          obtain ⟨q2, cq2, hv9, hdo, _⟩ := hO9.open
          subst hv9
          replace DO := hide (DO.out.below hb)
          have DP := hide hdo
          clear hdo hO9
          try go_wp2_with fail
          refine hK.out _ _ ?hs67 (fun hS6 => ?_)
          case hs67 => exact bel_next hS5 hb
          clear hK K hb
          try simp only [Act.put, List.setIfInBounds_toArray, List.set_cons_zero, List.set_cons_succ]
          refine wpAnyH_ready (rs := [18]) (by kernel_rfl) (by simp) ?_
          refine AllReadyH.cons rfl (fun K hK => ?_) AllReadyH.nil
          go_simp
          have hdd := Dots_any q1 q2 _ cq1 _ cq2 (ordD l) (ordD l) _ DO.out DP.out
          rw [decide_eq_true rfl] at hdd
          refine Calls.mono hdd ?_
          clear hdd
          rintro e w' ⟨rfl, hb⟩
          try go_wp2_with fail
          refine hK.out _ _ ?hs68 (fun hS7 => ?_)
          case hs68 => exact bel_next hS6 hb
          clear hK K hb
          try simp only [Act.put, List.setIfInBounds_toArray, List.set_cons_zero, List.set_cons_succ]
          refine takeInH 19 45 ?v69 rfl rfl (by kernel_rfl) (by kernel_rfl) (by kernel_rfl) (fun _ _ _ h => h) (by kernel_rfl) hS7 ?hy69 ?_
          case hy69 => (intro W hW; clear hW; go_simp; try rfl)
          simp only [Act.put, List.setIfInBounds_toArray, List.set_cons_zero, List.set_cons_succ]
          refine takeInH 20 46 ?v70 rfl rfl (by kernel_rfl) (by kernel_rfl) (by kernel_rfl) (fun _ _ _ h => h) (by kernel_rfl) hS7 ?hy70 ?_
          case hy70 => (intro W hW; clear hW; go_simp; try rfl)
          simp only [Act.put, List.setIfInBounds_toArray, List.set_cons_zero, List.set_cons_succ]
          refine wpAnyH_done (by kernel_rfl) ?_ _
          have hb := hS7
          replace s0 := bcell hb s0
          replace s1 := bcell hb s1
          replace d0 := bcell hb d0
          replace d1 := bcell hb d1
          replace x0 := bcell hb x0
          replace x1 := bcell hb x1
          replace NX := hide (NX.out.below hb)
          replace DX := hide (DX.out.below hb)
          replace HU := hide (bel_next HU.out hb)
          clear hb hS0 hS1 hS2 hS3 hS4 hS5 hS6 hS7 DO DP
          generalize w' = u2 at *
          go_wp2_with fail
          refine Calls.mono (HQe.out _ (HN.out.below HU.out) (HD.out.below HU.out)) ?_
          rintro e u ⟨rfl, hb⟩
          replace s0 := bcell hb s0
          replace s1 := bcell hb s1
          replace d0 := bcell hb d0
          replace d1 := bcell hb d1
          replace x0 := bcell hb x0
          replace x1 := bcell hb x1
          replace NX := hide (NX.out.below hb)
          replace DX := hide (DX.out.below hb)
          replace HU := hide (bel_next HU.out hb)
          clear hb
          go_wp2
          refine wp_region_held_drew (S := fun W => Below u.heap.size u W) (by kernel_rfl) ((Below.refl _ u).drew) (fun hS0 => ?_)
          refine takeInH 0 66 ?v71 rfl rfl (by kernel_rfl) (by kernel_rfl) (by kernel_rfl) (fun _ _ _ h => h) (by kernel_rfl) hS0 ?hy71 ?_
          case hy71 => (intro W hW; have e0 := bcell hW s0; have e1 := bcell hW s1; have e2 := bcell hW d0; have e3 := bcell hW d1; clear hW; go_simp; try rfl)
          simp only [Act.put, List.setIfInBounds_toArray, List.set_cons_zero, List.set_cons_succ]
          refine takeInH 1 67 ?v72 rfl rfl (by kernel_rfl) (by kernel_rfl) (by kernel_rfl) (fun _ _ _ h => h) (by kernel_rfl) hS0 ?hy72 ?_
          case hy72 => (intro W hW; have e0 := bcell hW s0; have e1 := bcell hW s1; have e2 := bcell hW d0; have e3 := bcell hW d1; clear hW; go_simp; try rfl)
          simp only [Act.put, List.setIfInBounds_toArray, List.set_cons_zero, List.set_cons_succ]
          refine takeInH 3 69 ?v73 rfl rfl (by kernel_rfl) (by kernel_rfl) (by kernel_rfl) (fun _ _ _ h => h) (by kernel_rfl) hS0 ?hy73 ?_
          case hy73 => (intro W hW; have e0 := bcell hW s0; have e1 := bcell hW s1; have e2 := bcell hW d0; have e3 := bcell hW d1; clear hW; go_simp; try rfl)
          simp only [Act.put, List.setIfInBounds_toArray, List.set_cons_zero, List.set_cons_succ]
          refine takeInH 4 70 ?v74 rfl rfl (by kernel_rfl) (by kernel_rfl) (by kernel_rfl) (fun _ _ _ h => h) (by kernel_rfl) hS0 ?hy74 ?_
          case hy74 => (intro W hW; have e0 := bcell hW s0; have e1 := bcell hW s1; have e2 := bcell hW d0; have e3 := bcell hW d1; clear hW; go_simp; try rfl)
          simp only [Act.put, List.setIfInBounds_toArray, List.set_cons_zero, List.set_cons_succ]
          refine wpAnyH_ready (rs := [2]) (by kernel_rfl) (by simp) ?_
          refine AllReadyH.cons rfl (fun K hK => ?_) AllReadyH.nil
          go_simp
          refine (HHa.out _ (HN.out.below (bel_next HU.out hS0)) (HD.out.below (bel_next HU.out hS0))).mono ?_
          rintro e w' ⟨rfl, hb⟩
          try go_wp2_with fail
          refine hK.out _ _ ?hs75 (fun hS1 => ?_)
          case hs75 => exact bel_next hS0 hb
          clear hK K hb
          try simp only [Act.put, List.setIfInBounds_toArray, List.set_cons_zero, List.set_cons_succ]
          refine wpAnyH_ready (rs := [5]) (by kernel_rfl) (by simp) ?_
          refine AllReadyH.cons rfl (fun K hK => ?_) AllReadyH.nil
          go_simp
          refine (HHr.out _ (HN.out.below (bel_next HU.out hS1)) (HD.out.below (bel_next HU.out hS1))).mono ?_
          rintro e w' ⟨rfl, hb⟩
          try go_wp2_with fail
          refine hK.out _ _ ?hs76 (fun hS2 => ?_)
          case hs76 => exact bel_next hS1 hb
          clear hK K hb
          try simp only [Act.put, List.setIfInBounds_toArray, List.set_cons_zero, List.set_cons_succ]
          refine takeInH 6 72 ?v77 rfl rfl (by kernel_rfl) (by kernel_rfl) (by kernel_rfl) (fun _ _ _ h => h) (by kernel_rfl) hS2 ?hy77 ?_
          case hy77 => (intro W hW; clear hW; go_simp; try rfl)
          simp only [Act.put, List.setIfInBounds_toArray, List.set_cons_zero, List.set_cons_succ]
          refine wpAnyH_done (by kernel_rfl) ?_ _
          have hb := hS2
          replace s0 := bcell hb s0
          replace s1 := bcell hb s1
          replace d0 := bcell hb d0
          replace d1 := bcell hb d1
          replace x0 := bcell hb x0
          replace x1 := bcell hb x1
          replace NX := hide (NX.out.below hb)
          replace DX := hide (DX.out.below hb)
          replace HU := hide (bel_next HU.out hb)
          clear hb hS0 hS1 hS2
          generalize w' = u3 at *
          go_wp2_with fail
          refine Calls.mono (HAl.out _ (HLs.out.below HU.out)) ?_
          rintro e u ⟨rfl, hb⟩
          replace s0 := bcell hb s0
          replace s1 := bcell hb s1
          replace d0 := bcell hb d0
          replace d1 := bcell hb d1
          replace x0 := bcell hb x0
          replace x1 := bcell hb x1
          replace NX := hide (NX.out.below hb)
          replace DX := hide (DX.out.below hb)
          replace HU := hide (bel_next HU.out hb)
          clear hb
          go_wp2
          have HNu := hide (HN.out.below HU.out)
          have HDu := hide (HD.out.below HU.out)
          have HLu := hide (HLs.out.below HU.out)
          have HPl := hide hgd.2.1
          have HGd := hide hgd.1
          have Hlen : Hid (m.length ≤ 40 ∧ l.length = n) := ⟨by rw [HDu.out.1]; exact hli.2, HLu.out.1⟩
          have hoffs : Off pa na u.heap.size ∧ Off pm nm u.heap.size := by
            constructor
            · rcases HNu.out.far with h0 | h0
              · exact .inl h0
              · exact .inr fun a ha => Nat.ne_of_lt (h0 a ha)
            · rcases HDu.out.far with h0 | h0
              · exact .inl h0
              · exact .inr fun a ha => Nat.ne_of_lt (h0 a ha)
          have Hoffs := hide hoffs
          clear hoffs hgd s0 s1 d0 d1
          go_loopw [10] (fun i wr => ∃ k : Nat, k ≤ n ∧ i = .int .i64 k ∧ Hid (VS u ((l.take k).foldl addR (vec c, m)) wr)) (fun i _ => n - (intOf i).toNat)
          case atStart => exact ⟨0, by omega, rfl, bel1 _ _, pa, na, ca, pm, nm, cm, heap_alloc_new _ _, by show NS _ pa na (pln (vec c)); rw [HPl.out]; exact HNu.out.alloc _, HCa.out, HDu.out.alloc _, HCm.out, Hoffs.out.1, Hoffs.out.2⟩
          case round =>
            obtain ⟨k, hk, rfl, HV⟩ := hrel
            obtain ⟨hB, q1, j1, b1, q2, j2, b2, hg, hns, hcp, hds, hcq, ho1, ho2⟩ := HV.out
            have w0c : wr.cell? ⟨u.heap.size, 0, none⟩ = some (.slice q1 j1 b1) := by rw [cell_of_row wr _ _ _ _ _ hg]; rfl
            have w1c : wr.cell? ⟨u.heap.size, 1, none⟩ = some (.slice q2 j2 b2) := by rw [cell_of_row wr _ _ _ _ _ hg]; rfl
            have hsg : u.heap.size < wr.heap.size := (Array.getElem?_eq_some_iff.1 hg).1
            by_cases hlt : k < n
            · have hGs := addsR (l := l.take k) (fun x hx => HAm.out x (List.mem_of_mem_take hx)) HGd.out
              have hSl : ((l.take k).foldl addR (vec c, m)).2.length ≤ 10000 := by
                have z := adds_len (l.take k) (vec c, m)
                rw [List.length_take] at z
                have := Hlen.out
                simp at z
                omega
              have hmx := HAm.out _ (getDot_mem (show k < l.length by rw [Hlen.out.2]; exact hlt))
              have hnx := add_next (show k < l.length by rw [Hlen.out.2]; exact hlt) (vec c, m)
              rcases HLu.out.2.2 with h0 | ⟨b, off, rfl, hc⟩
              · omega
              · have y0 := bcell hB (hc k hlt).1
                have y1 := bcell hB (hc k hlt).2
                obtain ⟨x, hx⟩ : ∃ x, l.getD k (0, 0) = x := ⟨_, rfl⟩
                rw [hx] at y0 y1 hmx hnx
                have HNx := hide hnx
                generalize (l.take k).foldl addR (vec c, m) = S at *
                have hvp : vec (pln S.1) = S.1 := vec_pln S.1 hGs.1.1.1 hGs.1.1.2
                have hdl : j2 ≤ 10000 := by rw [← hds.1]; exact hSl
                have HAd := hide (fun W (h : NS W q1 j1 (pln S.1)) (k : DS W q2 j2 S.2) => AddR_any q1 q2 j1 b1 j2 b2 (pln S.1) S.2 x W h hcp k hcq (by rw [hvp]; exact hGs.1) (by rw [hvp]) hmx hdl)
                rw [hvp] at HAd
                have HNs := hide hns
                have HDs := hide hds
                have HBw := hide hB
                have Hg := hide hg
                have Ho := hide (And.intro ho1 ho2)
                clear hns hds hB hg hcp hcq ho1 ho2 hc hx hmx hnx hGs hSl hvp hdl HV
                obtain ⟨r9, s9⟩ := x
                go_wp2
                refine wp_region_any (by kernel_rfl) ?_
                change wpAny _ _ _ _ _ _ _ (World.drew _)
                refine takeP 1 94 ?v78 rfl rfl (by kernel_rfl) (by kernel_rfl) (by kernel_rfl) (fun _ _ _ h => h) (by kernel_rfl) ?hy78 ?_
                case hy78 => (intro W; go_simp; try rfl)
                simp only [Act.put, List.setIfInBounds_toArray, List.set_cons_zero, List.set_cons_succ]
                refine takeP 2 95 ?v79 rfl rfl (by kernel_rfl) (by kernel_rfl) (by kernel_rfl) (fun _ _ _ h => h) (by kernel_rfl) ?hy79 ?_
                case hy79 => (intro W; go_simp; try rfl)
                simp only [Act.put, List.setIfInBounds_toArray, List.set_cons_zero, List.set_cons_succ]
                refine takeP 3 96 ?v80 rfl rfl (by kernel_rfl) (by kernel_rfl) (by kernel_rfl) (fun _ _ _ h => h) (by kernel_rfl) ?hy80 ?_
                case hy80 => (intro W; go_simp; try rfl)
                simp only [Act.put, List.setIfInBounds_toArray, List.set_cons_zero, List.set_cons_succ]
                refine wpAny_ready (rs := [0, 4]) (by kernel_rfl) (by simp) ?_
                refine AllReady.cons rfl (fun K hK => ?_) (AllReady.cons rfl (fun K hK => ?_) AllReady.nil)
                · go_simp
                  first | (refine hK _ _ ?_; clear hK K) | skip
                  try simp only [Act.put, List.setIfInBounds_toArray, List.set_cons_zero, List.set_cons_succ]
                  refine wpAny_ready (rs := [4]) (by kernel_rfl) (by simp) ?_
                  refine AllReady.cons rfl (fun K hK => ?_) AllReady.nil
                  go_simp
                  first | (refine hK _ _ ?_; clear hK K) | skip
                  try simp only [Act.put, List.setIfInBounds_toArray, List.set_cons_zero, List.set_cons_succ]
                  refine wpAny_ready (rs := [5]) (by kernel_rfl) (by simp) ?_
                  refine AllReady.cons rfl (fun K hK => ?_) AllReady.nil
                  go_simp
                  refine Calls.mono (HAd.out _ HNs.out HDs.out) ?_
                  rintro e w9 ⟨⟨p3, k3, b3, p4, k4, b4, rfl, hns3, hcp3, hds3, hcp4, hoff⟩, hb9⟩
                  have g9 : w9.heap[u.heap.size]? = some (.cells #[.slice q1 j1 b1, .slice q2 j2 b2] 26 (0, 0)) := by rw [hb9.block _ hsg]; exact Hg.out
                  have a0 : w9.cell? ⟨u.heap.size, 0, none⟩ = some (.slice q1 j1 b1) := by rw [cell_of_row w9 _ _ _ _ _ g9]; rfl
                  have a1 : w9.cell? ⟨u.heap.size, 1, none⟩ = some (.slice q2 j2 b2) := by rw [cell_of_row w9 _ _ _ _ _ g9]; rfl
                  have z0 : w9.frozen? ⟨u.heap.size, 0, none⟩ = false := by simp [World.frozen?, g9]
                  have z1 : w9.frozen? ⟨u.heap.size, 1, none⟩ = false := by simp [World.frozen?, g9]
                  have hof := hoff u.heap.size hsg Ho.out.1 Ho.out.2
                  have HV2 : Hid (VS u ((l.take (k + 1)).foldl addR (vec c, m)) ((w9.setCell ⟨u.heap.size, 0, none⟩ (.slice p3 k3 b3)).setCell ⟨u.heap.size, 1, none⟩ (.slice p4 k4 b4))) := by unfold Hid; rw [HNx.out]; exact VS.put (bel_next HBw.out.drew hb9) g9 hns3 hcp3 hds3 hcp4 hof.1 hof.2
                  clear hns3 hcp3 hds3 hcp4 hoff hb9 g9 hof
                  try go_wp2_with fail
                  first | (refine hK _ _ ?_; clear hK K) | skip
                  try simp only [Act.put, List.setIfInBounds_toArray, List.set_cons_zero, List.set_cons_succ]
                  refine wpAny_ready (rs := [6]) (by kernel_rfl) (by simp) ?_
                  refine AllReady.cons rfl (fun K hK => ?_) AllReady.nil
                  go_simp
                  first | (refine hK _ _ ?_; clear hK K) | skip
                  try simp only [Act.put, List.setIfInBounds_toArray, List.set_cons_zero, List.set_cons_succ]
                  refine wpAny_done (by kernel_rfl) ?_ _
                  go_wp2
                  go_roundw
                  case rel => exact ⟨k + 1, by omega, by go_num, HV2⟩
                  case measure => simp [intOf]; omega
                · go_simp
                  first | (refine hK _ _ ?_; clear hK K) | skip
                  try simp only [Act.put, List.setIfInBounds_toArray, List.set_cons_zero, List.set_cons_succ]
                  refine wpAny_ready (rs := [0]) (by kernel_rfl) (by simp) ?_
                  refine AllReady.cons rfl (fun K hK => ?_) AllReady.nil
                  go_simp
                  first | (refine hK _ _ ?_; clear hK K) | skip
                  try simp only [Act.put, List.setIfInBounds_toArray, List.set_cons_zero, List.set_cons_succ]
                  refine wpAny_ready (rs := [5]) (by kernel_rfl) (by simp) ?_
                  refine AllReady.cons rfl (fun K hK => ?_) AllReady.nil
                  go_simp
                  refine Calls.mono (HAd.out _ HNs.out HDs.out) ?_
                  rintro e w9 ⟨⟨p3, k3, b3, p4, k4, b4, rfl, hns3, hcp3, hds3, hcp4, hoff⟩, hb9⟩
                  have g9 : w9.heap[u.heap.size]? = some (.cells #[.slice q1 j1 b1, .slice q2 j2 b2] 26 (0, 0)) := by rw [hb9.block _ hsg]; exact Hg.out
                  have a0 : w9.cell? ⟨u.heap.size, 0, none⟩ = some (.slice q1 j1 b1) := by rw [cell_of_row w9 _ _ _ _ _ g9]; rfl
                  have a1 : w9.cell? ⟨u.heap.size, 1, none⟩ = some (.slice q2 j2 b2) := by rw [cell_of_row w9 _ _ _ _ _ g9]; rfl
                  have z0 : w9.frozen? ⟨u.heap.size, 0, none⟩ = false := by simp [World.frozen?, g9]
                  have z1 : w9.frozen? ⟨u.heap.size, 1, none⟩ = false := by simp [World.frozen?, g9]
                  have hof := hoff u.heap.size hsg Ho.out.1 Ho.out.2
                  have HV2 : Hid (VS u ((l.take (k + 1)).foldl addR (vec c, m)) ((w9.setCell ⟨u.heap.size, 0, none⟩ (.slice p3 k3 b3)).setCell ⟨u.heap.size, 1, none⟩ (.slice p4 k4 b4))) := by unfold Hid; rw [HNx.out]; exact VS.put (bel_next HBw.out.drew hb9) g9 hns3 hcp3 hds3 hcp4 hof.1 hof.2
                  clear hns3 hcp3 hds3 hcp4 hoff hb9 g9 hof
                  try go_wp2_with fail
                  first | (refine hK _ _ ?_; clear hK K) | skip
                  try simp only [Act.put, List.setIfInBounds_toArray, List.set_cons_zero, List.set_cons_succ]
                  refine wpAny_ready (rs := [6]) (by kernel_rfl) (by simp) ?_
                  refine AllReady.cons rfl (fun K hK => ?_) AllReady.nil
                  go_simp
                  first | (refine hK _ _ ?_; clear hK K) | skip
                  try simp only [Act.put, List.setIfInBounds_toArray, List.set_cons_zero, List.set_cons_succ]
                  refine wpAny_done (by kernel_rfl) ?_ _
                  go_wp2
                  go_roundw
                  case rel => exact ⟨k + 1, by omega, by go_num, HV2⟩
                  case measure => simp [intOf]; omega
            · have hkl : n = k := by omega
              subst hkl
              have hbB := hB
              rw [List.take_of_length_le (by rw [Hlen.out.2]; exact Nat.le_refl _), ← HAf.out.1] at hns hds
              have HNs := hide hns
              have HDs := hide hds
              replace HU := hide (bel_next HU.out hB)
              replace NX := hide (NX.out.below hB)
              replace DX := hide (DX.out.below hB)
              replace x0 := bcell hB x0
              replace x1 := bcell hB x1
              have hln : (addF c m l).2.length ≤ 1000 := by
                have z1 := foldX_len (vec c) (ordD (m ++ l))
                have z2 := ordD_len (m ++ l)
                rw [List.length_append] at z2
                have := Hlen.out
                show (foldX (vec c) (ordD (m ++ l))).2.length ≤ 1000
                omega
              have hsx : seenB (pln (addF c m l).1) (addF c m l).2 = true := good_seen HAf.out.2 hln
              generalize addF c m l = A at *
              have HSx := hide (fun W (h : NS W p1 k1 (pln A.1)) (k : DS W p2 k2 A.2) => SeenR_any p1 p2 k1 e1 k2 e2 (pln A.1) A.2 W h k)
              rw [hsx] at HSx
              have HSm := hide (fun W (h1 : NS W p1 k1 (pln A.1)) (h2 : DS W p2 k2 A.2) (h3 : NS W q1 j1 (pln A.1)) (h4 : DS W q2 j2 A.2) => SameR_any p1 p2 q1 q2 k1 e1 k2 e2 j1 b1 j2 b2 (pln A.1) (pln A.1) A.2 A.2 W h1 h2 h3 h4)
              rw [decide_eq_true rfl, decide_eq_true rfl] at HSm
              clear hns hds hB hg hcp hcq ho1 ho2 hln hsx HV hbB
              go_wp2_with fail
              refine Calls.mono (HSm.out _ NX.out DX.out HNs.out HDs.out) ?_
              rintro e u ⟨rfl, hb⟩
              replace x0 := bcell hb x0
              replace x1 := bcell hb x1
              replace NX := hide (NX.out.below hb)
              replace DX := hide (DX.out.below hb)
              replace HU := hide (bel_next HU.out hb)
              clear hb
              go_wp2_with fail
              refine Calls.mono (HSx.out _ NX.out DX.out) ?_
              rintro e u ⟨rfl, hb⟩
              replace x0 := bcell hb x0
              replace x1 := bcell hb x1
              replace NX := hide (NX.out.below hb)
              replace DX := hide (DX.out.below hb)
              replace HU := hide (bel_next HU.out hb)
              clear hb
              go_wp2_with fail
              refine Calls.mono (awake4 _) ?_
              rintro e u ⟨rfl, hb⟩
              replace x0 := bcell hb x0
              replace x1 := bcell hb x1
              replace NX := hide (NX.out.below hb)
              replace DX := hide (DX.out.below hb)
              replace HU := hide (bel_next HU.out hb)
              clear hb
              go_wp2
              go_ret
              exact ⟨rfl, HU.out⟩
  · go_enter Try.func3, Try.ntmps3
    go_wp2_with fail
    refine Calls.mono (light4 pa pm na ca nm cm _ false (decide_eq_false hli) hna hnm) ?_
    rintro e u ⟨rfl, hb⟩
    replace s0 := bcell hb s0
    replace s1 := bcell hb s1
    replace d0 := bcell hb d0
    replace d1 := bcell hb d1
    replace HU := hide (bel_next HU.out hb)
    clear hb
    go_wp2_with fail
    refine Calls.mono (awake4 _) ?_
    rintro e u ⟨rfl, hb⟩
    replace s0 := bcell hb s0
    replace s1 := bcell hb s1
    replace d0 := bcell hb d0
    replace d1 := bcell hb d1
    replace HU := hide (bel_next HU.out hb)
    clear hb
    go_wp2
    go_ret
    exact ⟨rfl, HU.out⟩

/-! ### The row's step -/
set_option maxRecDepth 100000 in
theorem lifted (os : Os) (started : os.Started) (H : Type) (enc : TypeId × Value → H) :
    ReturnsInHanded {} Try.checked os 3 .any (Rows.dotsAddSpec.pre6 enc Try.prog Try.f3 Rows.dotsAddRow.domain false) (Rows.dotsAddSpec.post enc Try.prog Try.f3 false true false false) := by
  refine returnsInHanded_of_change_sized (C := Try.checked) own started (by kernel_rfl) Try.func3
    (ChangeSpec.witness6 (enc := enc) (C := Try.checked) false ⟨#[], #[.agg #[.slice none 0 0, .slice none 0 0], .slice none 0 0, .agg #[.int .i64 0, .int .i64 0]], []⟩ 8 (by kernel_rfl) (by kernel_rfl) (by kernel_rfl) (by kernel_rfl)) ?_
  intro W base args ds gs before hval0 hW hcnd hz0 _
  have hval : ∀ (j : Nat) t v, Try.f3.params[j]? = some t → args[j]? = some v → Value.okWide Try.prog W .any base t v := hval0
  have hz : (DataW.weightsEach Try.prog (Try.f3.params.toList ++ Rows.dotsAddSpec.plain.varTypes Try.prog) (ds ++ gs)).all (· ≤ reachBytes) = true := hz0
  have hW' := hW
  obtain ⟨p, q, hA0, hV, rfl, hfz, hnd⟩ := hW
  have hA : DataW.TrodAll enc Try.prog W 0 (fun _ => true) true Try.f3.params.toList args.toList ds p := hA0
  rw [Try.params3] at hA hval hz
  obtain ⟨v0, vs0, d0, ds0, p0, q0, hargs, rfl, rfl, h0, r0⟩ := trodAll_cons hA
  obtain ⟨v1, vs1, d1, ds1, p1, q1, rfl, rfl, rfl, h1, r1⟩ := trodAll_cons r0
  obtain ⟨v2, vs2, d2, ds2, p2, q2, rfl, rfl, rfl, h2, r2⟩ := trodAll_cons r1
  obtain ⟨rfl, rfl, rfl⟩ := trodAll_nil r2
  obtain rfl : args = #[v0, v1, v2] := by cases args; simp_all
  obtain ⟨rfl, rfl⟩ := trodVars_none hV
  have k0 := h0
  have lt0 : ∀ x ∈ p0, x.block < W.heap.size := by obtain ⟨m, hm⟩ := k0; exact DataW.trod_lt m _ _ _ hm
  have w0 : InS W v0 := in_seen (hval 0 26 v0 rfl rfl) h0 (fun n hn => by have := List.all_eq_true.1 hz n (DataW.weights_mem_each (j := 0) (t := 26) rfl rfl n hn); simpa using this)
  have k1 := h1
  have lt1 : ∀ x ∈ p1, x.block < W.heap.size := by obtain ⟨m, hm⟩ := k1; exact DataW.trod_lt m _ _ _ hm
  have w1 : InDs W v1 := in_dots (hval 1 24 v1 rfl rfl) h1 (fun n hn => by have := List.all_eq_true.1 hz n (DataW.weights_mem_each (j := 1) (t := 24) rfl rfl n hn); simpa using this)
  have k2 := h2
  have lt2 : ∀ x ∈ p2, x.block < W.heap.size := by obtain ⟨m, hm⟩ := k2; exact DataW.trod_lt m _ _ _ hm
  have w2 : InD W v2 := in_dot (hval 2 28 v2 rfl rfl) h2 (fun n hn => by have := List.all_eq_true.1 hz n (DataW.weights_mem_each (j := 2) (t := 28) rfl rfl n hn); simpa using this)
  clear hA0 hval0 hz0
  refine (walk v0 v1 v2 W w0 w1 w2).mono fun e W' ⟨he, bel⟩ => ?_
  subst he
  exact ⟨_, rfl, _, _, _, [], _, [], hW', trodAll_mk1 (shut_bool Try.underlying4 _), (trodAll_cons_mk (Below.trod laidOut (by kernel_rfl) (of_decide_eq_true (by kernel_rfl)) k0 bel lt0) (trodAll_cons_mk (Below.trod laidOut (by kernel_rfl) (of_decide_eq_true (by kernel_rfl)) k1 bel lt1) (trodAll_cons_mk (Below.trod laidOut (by kernel_rfl) (of_decide_eq_true (by kernel_rfl)) k2 bel lt2) trodAll_mk0))), rfl, bel.frame _, fun h => by cases h⟩

theorem over : Rows.dotsAddRow.holds Try.pinned (OpenSpec.ofChange Rows.dotsAddSpec) :=
  OpenClaim.holds_of_wide 3 Try.f3 rfl rfl rfl rfl rfl rfl rfl ⟨rfl, rfl, rfl, rfl, rfl⟩ rfl rfl rfl rfl rfl (by kernel_rfl) Try.func3 (by kernel_rfl)
    (of_decide_eq_true (by kernel_rfl)) (by unfold Func.isWrapper; first | (rw [if_pos (by decide +kernel)]; kernel_rfl) | (rw [if_neg (by decide +kernel)]; exact ⟨rfl, rfl⟩))
    (fun os started H enc _ => lifted os started H enc)
end Go.Proofs.Ytccpbkemiilgcaa.dotsAdd
namespace Go.Proofs.Ytccpbkemiilgcaa
theorem dotsAdd_holds : Rows.DotsAddSaid := dotsAdd.over
end Go.Proofs.Ytccpbkemiilgcaa
