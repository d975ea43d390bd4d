/- DotsJoin is true for every two Seen: what both have seen, whether one lacks what the other one has, whether they are alike. Conditions: none but the form's own. -/
import Derived.Test.YtccpbkemiilgcaaRows
import Derived.WalkKit
import Derived.ProofKit
import Derived.OpenShut
import Derived.ShutString
import Derived.ChangeOld
import Derived.Below
import Derived.SizedLaws
import Derived.Test.YtccpbkemiilgcaaDLaw
import Derived.Test.YtccpbkemiilgcaaDJoinM
namespace Go.Proofs.Ytccpbkemiilgcaa.dotsJoin
open Go.ChangeShapes Go.WideShapes Go.ChangeAt Go.RowKit
set_option linter.unusedVariables false

theorem own : ownKnob Try.prog.godebug = none := by kernel_rfl
theorem laidOut : laidOutB Try.prog = true := by kernel_rfl

set_option maxHeartbeats 16000000 in
set_option maxRecDepth 100000 in
theorem walk (v0 : Value) (v1 : Value) (w : World) (w0 : InS w v0) (w1 : InS w v1) :
    Calls Try.prog 4 #[v0, v1] w fun e w' => e = .returned (.bool true) ∧ Below w.heap.size w w' := by
  obtain ⟨pa, na, ca, c, pm, nm, cm, m, rfl, hN, hCa, hD, hCm⟩ := w0
  obtain ⟨qa, ja, ba, c', qm, jm, bm, m', rfl, hN', hCb, hD', hCn⟩ := w1
  have hna := hN.2.1
  have hnm := hD.2.1
  have hja := hN'.2.1
  have hjm := hD'.2.1
  have HN := hide hN
  have HD := hide hD
  have HN' := hide hN'
  have HD' := hide hD'
  have HCa := hide hCa
  have HCm := hide hCm
  have HCn := hide hCn
  have s0 : ((w.alloc (bxS pa pm na ca nm cm)).alloc (bxS qa qm ja ba jm bm)).cell? ⟨w.heap.size, 0, none⟩ = some (.slice pa na ca) := cell_old _ (cell_new w _ _ _ rfl 0 _ rfl)
  have s1 : ((w.alloc (bxS pa pm na ca nm cm)).alloc (bxS qa qm ja ba jm bm)).cell? ⟨w.heap.size, 1, none⟩ = some (.slice pm nm cm) := cell_old _ (cell_new w _ _ _ rfl 1 _ rfl)
  have t0 : ((w.alloc (bxS pa pm na ca nm cm)).alloc (bxS qa qm ja ba jm bm)).cell? ⟨w.heap.size + 1, 0, none⟩ = some (.slice qa ja ba) := cell_new _ _ _ _ (by simp) 0 _ rfl
  have t1 : ((w.alloc (bxS pa pm na ca nm cm)).alloc (bxS qa qm ja ba jm bm)).cell? ⟨w.heap.size + 1, 1, none⟩ = some (.slice qm jm bm) := cell_new _ _ _ _ (by simp) 1 _ rfl
  have HU := hide (bel2 w (bxS pa pm na ca nm cm) (bxS qa qm ja ba jm bm))
  clear hN hD hCa hCm hN' hD' hCb hCn
  have HPs := hide (fun W (h1 : NS W pa na c) (h2 : DS W pm nm m) (h3 : NS W qa ja c') (h4 : DS W qm jm m') => Same_any pa pm qa qm na ca nm cm ja ba jm bm c c' m m' W h1 h2 h3 h4)
  have HRs := hide (fun W (h1 : NS W pa na c) (h2 : DS W pm nm m) (h3 : NS W qa ja c') (h4 : DS W qm jm m') => SameR_any pa pm qa qm na ca nm cm ja ba jm bm c c' m m' W h1 h2 h3 h4)
  have HQa := hide (fun W (h : NS W pa na c) (k : DS W pm nm m) => SeenR_any pa pm na ca nm cm c m W h k)
  have HQb := hide (fun W (h : NS W qa ja c') (k : DS W qm jm m') => SeenR_any qa qm ja ba jm bm c' m' W h k)
  have HLk := hide (fun W (h1 : NS W pa na c) (h2 : DS W pm nm m) (h3 : NS W qa ja c') (h4 : DS W qm jm m') => Lacks_any pa pm na ca nm cm c m qa qm ja ba jm bm c' m' W h1 h2 h3 h4)
  by_cases hla : na ≤ 20 ∧ nm ≤ 40
  · by_cases hlb : ja ≤ 20 ∧ jm ≤ 40
    · by_cases hwa : sumL c ≤ 200
      · by_cases hwb : sumL c' ≤ 200
        · rcases hs : seenB c m with _ | _
          · rw [hs] at HQa HLk
            generalize (decide (c = c') && decide (m = m')) = bs at *
            go_enter Try.func4, Try.ntmps4
            go_wp2_with fail
            refine Calls.mono (light4 pa pm na ca nm cm _ true (decide_eq_true hla) hna hnm) ?_
            rintro e u ⟨rfl, hb⟩
            replace s0 := bcell hb s0
            replace s1 := bcell hb s1
            replace t0 := bcell hb t0
            replace t1 := bcell hb t1
            replace HU := hide (bel_next HU.out hb)
            clear hb
            go_wp2_with fail
            refine Calls.mono (light4 qa qm ja ba jm bm _ true (decide_eq_true hlb) hja hjm) ?_
            rintro e u ⟨rfl, hb⟩
            replace s0 := bcell hb s0
            replace s1 := bcell hb s1
            replace t0 := bcell hb t0
            replace t1 := bcell hb t1
            replace HU := hide (bel_next HU.out hb)
            clear hb
            go_wp2_with fail
            refine Calls.mono (low4 pa pm na ca nm cm c _ true (decide_eq_true hwa) (HN.out.below HU.out)) ?_
            rintro e u ⟨rfl, hb⟩
            replace s0 := bcell hb s0
            replace s1 := bcell hb s1
            replace t0 := bcell hb t0
            replace t1 := bcell hb t1
            replace HU := hide (bel_next HU.out hb)
            clear hb
            go_wp2_with fail
            refine Calls.mono (low4 qa qm ja ba jm bm c' _ true (decide_eq_true hwb) (HN'.out.below HU.out)) ?_
            rintro e u ⟨rfl, hb⟩
            replace s0 := bcell hb s0
            replace s1 := bcell hb s1
            replace t0 := bcell hb t0
            replace t1 := bcell hb t1
            replace HU := hide (bel_next HU.out hb)
            clear hb
            go_wp2_with fail
            refine Calls.mono (Join_bad1 pa pm na ca nm cm c m qa qm ja ba jm bm c' m' _ (HN.out.below HU.out) (HD.out.below HU.out) (HN'.out.below HU.out) (HD'.out.below HU.out) hs) ?_
            rintro e u ⟨⟨p1, k1, e1, p2, k2, e2, rfl, hns, hcp1, hds, hcp2, _, _⟩, hb⟩
            replace s0 := bcell hb s0
            replace s1 := bcell hb s1
            replace t0 := bcell hb t0
            replace t1 := bcell hb t1
            replace HU := hide (bel_next HU.out hb)
            have NX := hide hns
            have DX := hide hds
            clear hb hns hds
            go_wp2
            have x0 : (u.alloc (.cells #[.slice p1 k1 e1, .slice p2 k2 e2] 26)).cell? ⟨u.heap.size, 0, none⟩ = some (.slice p1 k1 e1) := cell_new u _ _ _ rfl 0 _ rfl
            have x1 : (u.alloc (.cells #[.slice p1 k1 e1, .slice p2 k2 e2] 26)).cell? ⟨u.heap.size, 1, none⟩ = some (.slice p2 k2 e2) := cell_new u _ _ _ rfl 1 _ rfl
            replace s0 := bcell (bel1 u (.cells #[.slice p1 k1 e1, .slice p2 k2 e2] 26)) s0
            replace s1 := bcell (bel1 u (.cells #[.slice p1 k1 e1, .slice p2 k2 e2] 26)) s1
            replace t0 := bcell (bel1 u (.cells #[.slice p1 k1 e1, .slice p2 k2 e2] 26)) t0
            replace t1 := bcell (bel1 u (.cells #[.slice p1 k1 e1, .slice p2 k2 e2] 26)) t1
            replace NX := hide (NX.out.below (bel1 u (.cells #[.slice p1 k1 e1, .slice p2 k2 e2] 26)))
            replace DX := hide (DX.out.below (bel1 u (.cells #[.slice p1 k1 e1, .slice p2 k2 e2] 26)))
            replace HU := hide (bel_next HU.out (bel1 u (.cells #[.slice p1 k1 e1, .slice p2 k2 e2] 26)))
            obtain ⟨gx, hgx⟩ : ∃ gx, gx = u.heap.size := ⟨_, rfl⟩
            generalize u.alloc (.cells #[.slice p1 k1 e1, .slice p2 k2 e2] 26) = u1 at *
            rw [← hgx] at *
            refine wp_region_held_drew (S := fun W => Below u1.heap.size u1 W) (by kernel_rfl) ((Below.refl _ u1).drew) (fun hS0 => ?_)
            refine takeInH 0 36 ?v1 rfl rfl (by kernel_rfl) (by kernel_rfl) (by kernel_rfl) (fun _ _ _ h => h) (by kernel_rfl) hS0 ?hy1 ?_
            case hy1 => (intro W hW; have e0 := bcell hW s0; have e1 := bcell hW s1; have e2 := bcell hW t0; have e3 := bcell hW t1; clear hW; go_simp; try rfl)
            simp only [Act.put, List.setIfInBounds_toArray, List.set_cons_zero, List.set_cons_succ]
            refine takeInH 1 37 ?v2 rfl rfl (by kernel_rfl) (by kernel_rfl) (by kernel_rfl) (fun _ _ _ h => h) (by kernel_rfl) hS0 ?hy2 ?_
            case hy2 => (intro W hW; have e0 := bcell hW s0; have e1 := bcell hW s1; have e2 := bcell hW t0; have e3 := bcell hW t1; clear hW; go_simp; try rfl)
            simp only [Act.put, List.setIfInBounds_toArray, List.set_cons_zero, List.set_cons_succ]
            refine takeInH 3 39 ?v3 rfl rfl (by kernel_rfl) (by kernel_rfl) (by kernel_rfl) (fun _ _ _ h => h) (by kernel_rfl) hS0 ?hy3 ?_
            case hy3 => (intro W hW; have e0 := bcell hW s0; have e1 := bcell hW s1; have e2 := bcell hW t0; have e3 := bcell hW t1; clear hW; go_simp; try rfl)
            simp only [Act.put, List.setIfInBounds_toArray, List.set_cons_zero, List.set_cons_succ]
            refine takeInH 4 40 ?v4 rfl rfl (by kernel_rfl) (by kernel_rfl) (by kernel_rfl) (fun _ _ _ h => h) (by kernel_rfl) hS0 ?hy4 ?_
            case hy4 => (intro W hW; have e0 := bcell hW s0; have e1 := bcell hW s1; have e2 := bcell hW t0; have e3 := bcell hW t1; clear hW; go_simp; try rfl)
            simp only [Act.put, List.setIfInBounds_toArray, List.set_cons_zero, List.set_cons_succ]
            refine wpAnyH_ready (rs := [2]) (by kernel_rfl) (by simp) ?_
            refine AllReadyH.cons rfl (fun K hK => ?_) AllReadyH.nil
            go_simp
            refine Calls.mono (HPs.out _ (HN.out.below (bel_next HU.out hS0)) (HD.out.below (bel_next HU.out hS0)) (HN'.out.below (bel_next HU.out hS0)) (HD'.out.below (bel_next HU.out hS0))) ?_
            rintro e w' ⟨rfl, hb⟩
            try go_wp2_with fail
            refine hK.out _ _ ?hs5 (fun hS1 => ?_)
            case hs5 => exact bel_next hS0 hb
            clear hK K hb
            try simp only [Act.put, List.setIfInBounds_toArray, List.set_cons_zero, List.set_cons_succ]
            refine wpAnyH_ready (rs := [5]) (by kernel_rfl) (by simp) ?_
            refine AllReadyH.cons rfl (fun K hK => ?_) AllReadyH.nil
            go_simp
            refine Calls.mono (HRs.out _ (HN.out.below (bel_next HU.out hS1)) (HD.out.below (bel_next HU.out hS1)) (HN'.out.below (bel_next HU.out hS1)) (HD'.out.below (bel_next HU.out hS1))) ?_
            rintro e w' ⟨rfl, hb⟩
            try go_wp2_with fail
            refine hK.out _ _ ?hs6 (fun hS2 => ?_)
            case hs6 => exact bel_next hS1 hb
            clear hK K hb
            try simp only [Act.put, List.setIfInBounds_toArray, List.set_cons_zero, List.set_cons_succ]
            refine takeInH 6 42 ?v7 rfl rfl (by kernel_rfl) (by kernel_rfl) (by kernel_rfl) (fun _ _ _ h => h) (by kernel_rfl) hS2 ?hy7 ?_
            case hy7 => (intro W hW; clear hW; go_simp; try rfl)
            simp only [Act.put, List.setIfInBounds_toArray, List.set_cons_zero, List.set_cons_succ]
            refine wpAnyH_done (by kernel_rfl) ?_ _
            have hb := hS2
            replace s0 := bcell hb s0
            replace s1 := bcell hb s1
            replace t0 := bcell hb t0
            replace t1 := bcell hb t1
            replace x0 := bcell hb x0
            replace x1 := bcell hb x1
            replace NX := hide (NX.out.below hb)
            replace DX := hide (DX.out.below hb)
            replace HU := hide (bel_next HU.out hb)
            clear hb hS0 hS1 hS2
            generalize w' = u2 at *
            go_wp2_with fail
            refine Calls.mono (HQa.out _ (HN.out.below HU.out) (HD.out.below HU.out)) ?_
            rintro e u ⟨rfl, hb⟩
            replace s0 := bcell hb s0
            replace s1 := bcell hb s1
            replace t0 := bcell hb t0
            replace t1 := bcell hb t1
            replace x0 := bcell hb x0
            replace x1 := bcell hb x1
            replace NX := hide (NX.out.below hb)
            replace DX := hide (DX.out.below hb)
            replace HU := hide (bel_next HU.out hb)
            clear hb
            go_wp2_with fail
            refine Calls.mono (SameR_any p1 p2 none none k1 e1 k2 e2 0 0 0 0 [] [] [] [] _ NX.out DX.out (NS.nil _ _) (DS.nil _ _)) ?_
            rintro e u ⟨rfl, hb⟩
            replace s0 := bcell hb s0
            replace s1 := bcell hb s1
            replace t0 := bcell hb t0
            replace t1 := bcell hb t1
            replace x0 := bcell hb x0
            replace x1 := bcell hb x1
            replace NX := hide (NX.out.below hb)
            replace DX := hide (DX.out.below hb)
            replace HU := hide (bel_next HU.out hb)
            clear hb
            go_wp2_with fail
            refine Calls.mono (HLk.out _ (HN.out.below HU.out) (HD.out.below HU.out) (HN'.out.below HU.out) (HD'.out.below HU.out)) ?_
            rintro e u ⟨rfl, hb⟩
            replace s0 := bcell hb s0
            replace s1 := bcell hb s1
            replace t0 := bcell hb t0
            replace t1 := bcell hb t1
            replace x0 := bcell hb x0
            replace x1 := bcell hb x1
            replace NX := hide (NX.out.below hb)
            replace DX := hide (DX.out.below hb)
            replace HU := hide (bel_next HU.out hb)
            clear hb
            go_wp2_with fail
            refine Calls.mono (awake4 _) ?_
            rintro e u ⟨rfl, hb⟩
            replace s0 := bcell hb s0
            replace s1 := bcell hb s1
            replace t0 := bcell hb t0
            replace t1 := bcell hb t1
            replace x0 := bcell hb x0
            replace x1 := bcell hb x1
            replace NX := hide (NX.out.below hb)
            replace DX := hide (DX.out.below hb)
            replace HU := hide (bel_next HU.out hb)
            clear hb
            go_wp2
            go_ret
            exact ⟨rfl, HU.out⟩
          · rcases hs' : seenB c' m' with _ | _
            · rw [hs] at HQa HLk
              rw [hs'] at HQb HLk
              generalize (decide (c = c') && decide (m = m')) = bs at *
              go_enter Try.func4, Try.ntmps4
              go_wp2_with fail
              refine Calls.mono (light4 pa pm na ca nm cm _ true (decide_eq_true hla) hna hnm) ?_
              rintro e u ⟨rfl, hb⟩
              replace s0 := bcell hb s0
              replace s1 := bcell hb s1
              replace t0 := bcell hb t0
              replace t1 := bcell hb t1
              replace HU := hide (bel_next HU.out hb)
              clear hb
              go_wp2_with fail
              refine Calls.mono (light4 qa qm ja ba jm bm _ true (decide_eq_true hlb) hja hjm) ?_
              rintro e u ⟨rfl, hb⟩
              replace s0 := bcell hb s0
              replace s1 := bcell hb s1
              replace t0 := bcell hb t0
              replace t1 := bcell hb t1
              replace HU := hide (bel_next HU.out hb)
              clear hb
              go_wp2_with fail
              refine Calls.mono (low4 pa pm na ca nm cm c _ true (decide_eq_true hwa) (HN.out.below HU.out)) ?_
              rintro e u ⟨rfl, hb⟩
              replace s0 := bcell hb s0
              replace s1 := bcell hb s1
              replace t0 := bcell hb t0
              replace t1 := bcell hb t1
              replace HU := hide (bel_next HU.out hb)
              clear hb
              go_wp2_with fail
              refine Calls.mono (low4 qa qm ja ba jm bm c' _ true (decide_eq_true hwb) (HN'.out.below HU.out)) ?_
              rintro e u ⟨rfl, hb⟩
              replace s0 := bcell hb s0
              replace s1 := bcell hb s1
              replace t0 := bcell hb t0
              replace t1 := bcell hb t1
              replace HU := hide (bel_next HU.out hb)
              clear hb
              go_wp2_with fail
              refine Calls.mono (Join_bad2 pa pm na ca nm cm c m qa qm ja ba jm bm c' m' _ (HN.out.below HU.out) (HD.out.below HU.out) (HN'.out.below HU.out) (HD'.out.below HU.out) hs hs') ?_
              rintro e u ⟨⟨p1, k1, e1, p2, k2, e2, rfl, hns, hcp1, hds, hcp2, _, _⟩, hb⟩
              replace s0 := bcell hb s0
              replace s1 := bcell hb s1
              replace t0 := bcell hb t0
              replace t1 := bcell hb t1
              replace HU := hide (bel_next HU.out hb)
              have NX := hide hns
              have DX := hide hds
              clear hb hns hds
              go_wp2
              have x0 : (u.alloc (.cells #[.slice p1 k1 e1, .slice p2 k2 e2] 26)).cell? ⟨u.heap.size, 0, none⟩ = some (.slice p1 k1 e1) := cell_new u _ _ _ rfl 0 _ rfl
              have x1 : (u.alloc (.cells #[.slice p1 k1 e1, .slice p2 k2 e2] 26)).cell? ⟨u.heap.size, 1, none⟩ = some (.slice p2 k2 e2) := cell_new u _ _ _ rfl 1 _ rfl
              replace s0 := bcell (bel1 u (.cells #[.slice p1 k1 e1, .slice p2 k2 e2] 26)) s0
              replace s1 := bcell (bel1 u (.cells #[.slice p1 k1 e1, .slice p2 k2 e2] 26)) s1
              replace t0 := bcell (bel1 u (.cells #[.slice p1 k1 e1, .slice p2 k2 e2] 26)) t0
              replace t1 := bcell (bel1 u (.cells #[.slice p1 k1 e1, .slice p2 k2 e2] 26)) t1
              replace NX := hide (NX.out.below (bel1 u (.cells #[.slice p1 k1 e1, .slice p2 k2 e2] 26)))
              replace DX := hide (DX.out.below (bel1 u (.cells #[.slice p1 k1 e1, .slice p2 k2 e2] 26)))
              replace HU := hide (bel_next HU.out (bel1 u (.cells #[.slice p1 k1 e1, .slice p2 k2 e2] 26)))
              obtain ⟨gx, hgx⟩ : ∃ gx, gx = u.heap.size := ⟨_, rfl⟩
              generalize u.alloc (.cells #[.slice p1 k1 e1, .slice p2 k2 e2] 26) = u1 at *
              rw [← hgx] at *
              refine wp_region_held_drew (S := fun W => Below u1.heap.size u1 W) (by kernel_rfl) ((Below.refl _ u1).drew) (fun hS0 => ?_)
              refine takeInH 0 36 ?v8 rfl rfl (by kernel_rfl) (by kernel_rfl) (by kernel_rfl) (fun _ _ _ h => h) (by kernel_rfl) hS0 ?hy8 ?_
              case hy8 => (intro W hW; have e0 := bcell hW s0; have e1 := bcell hW s1; have e2 := bcell hW t0; have e3 := bcell hW t1; clear hW; go_simp; try rfl)
              simp only [Act.put, List.setIfInBounds_toArray, List.set_cons_zero, List.set_cons_succ]
              refine takeInH 1 37 ?v9 rfl rfl (by kernel_rfl) (by kernel_rfl) (by kernel_rfl) (fun _ _ _ h => h) (by kernel_rfl) hS0 ?hy9 ?_
              case hy9 => (intro W hW; have e0 := bcell hW s0; have e1 := bcell hW s1; have e2 := bcell hW t0; have e3 := bcell hW t1; clear hW; go_simp; try rfl)
              simp only [Act.put, List.setIfInBounds_toArray, List.set_cons_zero, List.set_cons_succ]
              refine takeInH 3 39 ?v10 rfl rfl (by kernel_rfl) (by kernel_rfl) (by kernel_rfl) (fun _ _ _ h => h) (by kernel_rfl) hS0 ?hy10 ?_
              case hy10 => (intro W hW; have e0 := bcell hW s0; have e1 := bcell hW s1; have e2 := bcell hW t0; have e3 := bcell hW t1; clear hW; go_simp; try rfl)
              simp only [Act.put, List.setIfInBounds_toArray, List.set_cons_zero, List.set_cons_succ]
              refine takeInH 4 40 ?v11 rfl rfl (by kernel_rfl) (by kernel_rfl) (by kernel_rfl) (fun _ _ _ h => h) (by kernel_rfl) hS0 ?hy11 ?_
              case hy11 => (intro W hW; have e0 := bcell hW s0; have e1 := bcell hW s1; have e2 := bcell hW t0; have e3 := bcell hW t1; clear hW; go_simp; try rfl)
              simp only [Act.put, List.setIfInBounds_toArray, List.set_cons_zero, List.set_cons_succ]
              refine wpAnyH_ready (rs := [2]) (by kernel_rfl) (by simp) ?_
              refine AllReadyH.cons rfl (fun K hK => ?_) AllReadyH.nil
              go_simp
              refine Calls.mono (HPs.out _ (HN.out.below (bel_next HU.out hS0)) (HD.out.below (bel_next HU.out hS0)) (HN'.out.below (bel_next HU.out hS0)) (HD'.out.below (bel_next HU.out hS0))) ?_
              rintro e w' ⟨rfl, hb⟩
              try go_wp2_with fail
              refine hK.out _ _ ?hs12 (fun hS1 => ?_)
              case hs12 => exact bel_next hS0 hb
              clear hK K hb
              try simp only [Act.put, List.setIfInBounds_toArray, List.set_cons_zero, List.set_cons_succ]
              refine wpAnyH_ready (rs := [5]) (by kernel_rfl) (by simp) ?_
              refine AllReadyH.cons rfl (fun K hK => ?_) AllReadyH.nil
              go_simp
              refine Calls.mono (HRs.out _ (HN.out.below (bel_next HU.out hS1)) (HD.out.below (bel_next HU.out hS1)) (HN'.out.below (bel_next HU.out hS1)) (HD'.out.below (bel_next HU.out hS1))) ?_
              rintro e w' ⟨rfl, hb⟩
              try go_wp2_with fail
              refine hK.out _ _ ?hs13 (fun hS2 => ?_)
              case hs13 => exact bel_next hS1 hb
              clear hK K hb
              try simp only [Act.put, List.setIfInBounds_toArray, List.set_cons_zero, List.set_cons_succ]
              refine takeInH 6 42 ?v14 rfl rfl (by kernel_rfl) (by kernel_rfl) (by kernel_rfl) (fun _ _ _ h => h) (by kernel_rfl) hS2 ?hy14 ?_
              case hy14 => (intro W hW; clear hW; go_simp; try rfl)
              simp only [Act.put, List.setIfInBounds_toArray, List.set_cons_zero, List.set_cons_succ]
              refine wpAnyH_done (by kernel_rfl) ?_ _
              have hb := hS2
              replace s0 := bcell hb s0
              replace s1 := bcell hb s1
              replace t0 := bcell hb t0
              replace t1 := bcell hb t1
              replace x0 := bcell hb x0
              replace x1 := bcell hb x1
              replace NX := hide (NX.out.below hb)
              replace DX := hide (DX.out.below hb)
              replace HU := hide (bel_next HU.out hb)
              clear hb hS0 hS1 hS2
              generalize w' = u2 at *
              go_wp2_with fail
              refine Calls.mono (HQa.out _ (HN.out.below HU.out) (HD.out.below HU.out)) ?_
              rintro e u ⟨rfl, hb⟩
              replace s0 := bcell hb s0
              replace s1 := bcell hb s1
              replace t0 := bcell hb t0
              replace t1 := bcell hb t1
              replace x0 := bcell hb x0
              replace x1 := bcell hb x1
              replace NX := hide (NX.out.below hb)
              replace DX := hide (DX.out.below hb)
              replace HU := hide (bel_next HU.out hb)
              clear hb
              go_wp2_with fail
              refine Calls.mono (HQb.out _ (HN'.out.below HU.out) (HD'.out.below HU.out)) ?_
              rintro e u ⟨rfl, hb⟩
              replace s0 := bcell hb s0
              replace s1 := bcell hb s1
              replace t0 := bcell hb t0
              replace t1 := bcell hb t1
              replace x0 := bcell hb x0
              replace x1 := bcell hb x1
              replace NX := hide (NX.out.below hb)
              replace DX := hide (DX.out.below hb)
              replace HU := hide (bel_next HU.out hb)
              clear hb
              go_wp2_with fail
              refine Calls.mono (SameR_any p1 p2 none none k1 e1 k2 e2 0 0 0 0 [] [] [] [] _ NX.out DX.out (NS.nil _ _) (DS.nil _ _)) ?_
              rintro e u ⟨rfl, hb⟩
              replace s0 := bcell hb s0
              replace s1 := bcell hb s1
              replace t0 := bcell hb t0
              replace t1 := bcell hb t1
              replace x0 := bcell hb x0
              replace x1 := bcell hb x1
              replace NX := hide (NX.out.below hb)
              replace DX := hide (DX.out.below hb)
              replace HU := hide (bel_next HU.out hb)
              clear hb
              go_wp2_with fail
              refine Calls.mono (HLk.out _ (HN.out.below HU.out) (HD.out.below HU.out) (HN'.out.below HU.out) (HD'.out.below HU.out)) ?_
              rintro e u ⟨rfl, hb⟩
              replace s0 := bcell hb s0
              replace s1 := bcell hb s1
              replace t0 := bcell hb t0
              replace t1 := bcell hb t1
              replace x0 := bcell hb x0
              replace x1 := bcell hb x1
              replace NX := hide (NX.out.below hb)
              replace DX := hide (DX.out.below hb)
              replace HU := hide (bel_next HU.out hb)
              clear hb
              go_wp2_with fail
              refine Calls.mono (awake4 _) ?_
              rintro e u ⟨rfl, hb⟩
              replace s0 := bcell hb s0
              replace s1 := bcell hb s1
              replace t0 := bcell hb t0
              replace t1 := bcell hb t1
              replace x0 := bcell hb x0
              replace x1 := bcell hb x1
              replace NX := hide (NX.out.below hb)
              replace DX := hide (DX.out.below hb)
              replace HU := hide (bel_next HU.out hb)
              clear hb
              go_wp2
              go_ret
              exact ⟨rfl, HU.out⟩
            · have HBoth : Hid (seenB c m = true ∧ seenB c' m' = true) := ⟨hs, hs'⟩
              rw [hs] at HQa HLk
              rw [hs'] at HQb HLk
              have hls := lacks_same hs hs'
              have hgd := seen_good hs
              have hgd' := seen_good hs'
              generalize (decide (c = c') && decide (m = m')) = bs at *
              go_enter Try.func4, Try.ntmps4
              go_wp2_with fail
              refine Calls.mono (light4 pa pm na ca nm cm _ true (decide_eq_true hla) hna hnm) ?_
              rintro e u ⟨rfl, hb⟩
              replace s0 := bcell hb s0
              replace s1 := bcell hb s1
              replace t0 := bcell hb t0
              replace t1 := bcell hb t1
              replace HU := hide (bel_next HU.out hb)
              clear hb
              go_wp2_with fail
              refine Calls.mono (light4 qa qm ja ba jm bm _ true (decide_eq_true hlb) hja hjm) ?_
              rintro e u ⟨rfl, hb⟩
              replace s0 := bcell hb s0
              replace s1 := bcell hb s1
              replace t0 := bcell hb t0
              replace t1 := bcell hb t1
              replace HU := hide (bel_next HU.out hb)
              clear hb
              go_wp2_with fail
              refine Calls.mono (low4 pa pm na ca nm cm c _ true (decide_eq_true hwa) (HN.out.below HU.out)) ?_
              rintro e u ⟨rfl, hb⟩
              replace s0 := bcell hb s0
              replace s1 := bcell hb s1
              replace t0 := bcell hb t0
              replace t1 := bcell hb t1
              replace HU := hide (bel_next HU.out hb)
              clear hb
              go_wp2_with fail
              refine Calls.mono (low4 qa qm ja ba jm bm c' _ true (decide_eq_true hwb) (HN'.out.below HU.out)) ?_
              rintro e u ⟨rfl, hb⟩
              replace s0 := bcell hb s0
              replace s1 := bcell hb s1
              replace t0 := bcell hb t0
              replace t1 := bcell hb t1
              replace HU := hide (bel_next HU.out hb)
              clear hb
              go_wp2_with fail
              refine Calls.mono (Join_good pa pm na ca nm cm c m qa qm ja ba jm bm c' m' _ (HN.out.below HU.out) (HD.out.below HU.out) (HN'.out.below HU.out) (HD'.out.below HU.out) hs hs' HCm.out.2.2 HCn.out.2.2 (by omega)) ?_
              rintro e u ⟨⟨p1, k1, e1, p2, k2, e2, rfl, hns, hcp1, hds, hcp2, _, _⟩, hb⟩
              replace s0 := bcell hb s0
              replace s1 := bcell hb s1
              replace t0 := bcell hb t0
              replace t1 := bcell hb t1
              replace HU := hide (bel_next HU.out hb)
              have NX := hide hns
              have DX := hide hds
              clear hb hns hds
              go_wp2
              have x0 : (u.alloc (.cells #[.slice p1 k1 e1, .slice p2 k2 e2] 26)).cell? ⟨u.heap.size, 0, none⟩ = some (.slice p1 k1 e1) := cell_new u _ _ _ rfl 0 _ rfl
              have x1 : (u.alloc (.cells #[.slice p1 k1 e1, .slice p2 k2 e2] 26)).cell? ⟨u.heap.size, 1, none⟩ = some (.slice p2 k2 e2) := cell_new u _ _ _ rfl 1 _ rfl
              replace s0 := bcell (bel1 u (.cells #[.slice p1 k1 e1, .slice p2 k2 e2] 26)) s0
              replace s1 := bcell (bel1 u (.cells #[.slice p1 k1 e1, .slice p2 k2 e2] 26)) s1
              replace t0 := bcell (bel1 u (.cells #[.slice p1 k1 e1, .slice p2 k2 e2] 26)) t0
              replace t1 := bcell (bel1 u (.cells #[.slice p1 k1 e1, .slice p2 k2 e2] 26)) t1
              replace NX := hide (NX.out.below (bel1 u (.cells #[.slice p1 k1 e1, .slice p2 k2 e2] 26)))
              replace DX := hide (DX.out.below (bel1 u (.cells #[.slice p1 k1 e1, .slice p2 k2 e2] 26)))
              replace HU := hide (bel_next HU.out (bel1 u (.cells #[.slice p1 k1 e1, .slice p2 k2 e2] 26)))
              obtain ⟨gx, hgx⟩ : ∃ gx, gx = u.heap.size := ⟨_, rfl⟩
              generalize u.alloc (.cells #[.slice p1 k1 e1, .slice p2 k2 e2] 26) = u1 at *
              rw [← hgx] at *
              refine wp_region_held_drew (S := fun W => Below u1.heap.size u1 W) (by kernel_rfl) ((Below.refl _ u1).drew) (fun hS0 => ?_)
              refine takeInH 0 36 ?v15 rfl rfl (by kernel_rfl) (by kernel_rfl) (by kernel_rfl) (fun _ _ _ h => h) (by kernel_rfl) hS0 ?hy15 ?_
              case hy15 => (intro W hW; have e0 := bcell hW s0; have e1 := bcell hW s1; have e2 := bcell hW t0; have e3 := bcell hW t1; clear hW; go_simp; try rfl)
              simp only [Act.put, List.setIfInBounds_toArray, List.set_cons_zero, List.set_cons_succ]
              refine takeInH 1 37 ?v16 rfl rfl (by kernel_rfl) (by kernel_rfl) (by kernel_rfl) (fun _ _ _ h => h) (by kernel_rfl) hS0 ?hy16 ?_
              case hy16 => (intro W hW; have e0 := bcell hW s0; have e1 := bcell hW s1; have e2 := bcell hW t0; have e3 := bcell hW t1; clear hW; go_simp; try rfl)
              simp only [Act.put, List.setIfInBounds_toArray, List.set_cons_zero, List.set_cons_succ]
              refine takeInH 3 39 ?v17 rfl rfl (by kernel_rfl) (by kernel_rfl) (by kernel_rfl) (fun _ _ _ h => h) (by kernel_rfl) hS0 ?hy17 ?_
              case hy17 => (intro W hW; have e0 := bcell hW s0; have e1 := bcell hW s1; have e2 := bcell hW t0; have e3 := bcell hW t1; clear hW; go_simp; try rfl)
              simp only [Act.put, List.setIfInBounds_toArray, List.set_cons_zero, List.set_cons_succ]
              refine takeInH 4 40 ?v18 rfl rfl (by kernel_rfl) (by kernel_rfl) (by kernel_rfl) (fun _ _ _ h => h) (by kernel_rfl) hS0 ?hy18 ?_
              case hy18 => (intro W hW; have e0 := bcell hW s0; have e1 := bcell hW s1; have e2 := bcell hW t0; have e3 := bcell hW t1; clear hW; go_simp; try rfl)
              simp only [Act.put, List.setIfInBounds_toArray, List.set_cons_zero, List.set_cons_succ]
              refine wpAnyH_ready (rs := [2]) (by kernel_rfl) (by simp) ?_
              refine AllReadyH.cons rfl (fun K hK => ?_) AllReadyH.nil
              go_simp
              refine Calls.mono (HPs.out _ (HN.out.below (bel_next HU.out hS0)) (HD.out.below (bel_next HU.out hS0)) (HN'.out.below (bel_next HU.out hS0)) (HD'.out.below (bel_next HU.out hS0))) ?_
              rintro e w' ⟨rfl, hb⟩
              try go_wp2_with fail
              refine hK.out _ _ ?hs19 (fun hS1 => ?_)
              case hs19 => exact bel_next hS0 hb
              clear hK K hb
              try simp only [Act.put, List.setIfInBounds_toArray, List.set_cons_zero, List.set_cons_succ]
              refine wpAnyH_ready (rs := [5]) (by kernel_rfl) (by simp) ?_
              refine AllReadyH.cons rfl (fun K hK => ?_) AllReadyH.nil
              go_simp
              refine Calls.mono (HRs.out _ (HN.out.below (bel_next HU.out hS1)) (HD.out.below (bel_next HU.out hS1)) (HN'.out.below (bel_next HU.out hS1)) (HD'.out.below (bel_next HU.out hS1))) ?_
              rintro e w' ⟨rfl, hb⟩
              try go_wp2_with fail
              refine hK.out _ _ ?hs20 (fun hS2 => ?_)
              case hs20 => exact bel_next hS1 hb
              clear hK K hb
              try simp only [Act.put, List.setIfInBounds_toArray, List.set_cons_zero, List.set_cons_succ]
              refine takeInH 6 42 ?v21 rfl rfl (by kernel_rfl) (by kernel_rfl) (by kernel_rfl) (fun _ _ _ h => h) (by kernel_rfl) hS2 ?hy21 ?_
              case hy21 => (intro W hW; clear hW; go_simp; try rfl)
              simp only [Act.put, List.setIfInBounds_toArray, List.set_cons_zero, List.set_cons_succ]
              refine wpAnyH_done (by kernel_rfl) ?_ _
              have hb := hS2
              replace s0 := bcell hb s0
              replace s1 := bcell hb s1
              replace t0 := bcell hb t0
              replace t1 := bcell hb t1
              replace x0 := bcell hb x0
              replace x1 := bcell hb x1
              replace NX := hide (NX.out.below hb)
              replace DX := hide (DX.out.below hb)
              replace HU := hide (bel_next HU.out hb)
              clear hb hS0 hS1 hS2
              generalize w' = u2 at *
              go_wp2_with fail
              refine Calls.mono (HQa.out _ (HN.out.below HU.out) (HD.out.below HU.out)) ?_
              rintro e u ⟨rfl, hb⟩
              replace s0 := bcell hb s0
              replace s1 := bcell hb s1
              replace t0 := bcell hb t0
              replace t1 := bcell hb t1
              replace x0 := bcell hb x0
              replace x1 := bcell hb x1
              replace NX := hide (NX.out.below hb)
              replace DX := hide (DX.out.below hb)
              replace HU := hide (bel_next HU.out hb)
              clear hb
              go_wp2_with fail
              refine Calls.mono (HQb.out _ (HN'.out.below HU.out) (HD'.out.below HU.out)) ?_
              rintro e u ⟨rfl, hb⟩
              replace s0 := bcell hb s0
              replace s1 := bcell hb s1
              replace t0 := bcell hb t0
              replace t1 := bcell hb t1
              replace x0 := bcell hb x0
              replace x1 := bcell hb x1
              replace NX := hide (NX.out.below hb)
              replace DX := hide (DX.out.below hb)
              replace HU := hide (bel_next HU.out hb)
              clear hb
              go_wp2
              have HNu := hide (HN.out.below HU.out)
              have HDu := hide (HD.out.below HU.out)
              have HNv := hide (HN'.out.below HU.out)
              have HDv := hide (HD'.out.below HU.out)
              have HPl := hide hgd.2.1
              have HI0 : Hid (InvS (vec c, m) (P1 (vec c, m) (vec c') 0) 40) := inv0 hgd.1 (vec c') 40 (by show m.length ≤ 40; rw [HDu.out.1]; exact hla.2)
              have HMb : Hid (∀ x ∈ m', mayD x = true) := fun x hx => (hgd'.1.2.2 x hx).1
              have Hlm : Hid (m'.length = jm) := HDv.out.1
              have Hat : Hid (∀ k, k < 5 → at5 c' k ≤ 200) := fun k hk => sum_at hwb k hk
              have Hls := hide hls
              have hjm' : jm ≤ 40 := hlb.2
              have hoffs : Off pa na u.heap.size ∧ Off pm nm u.heap.size := by
                constructor
                · rcases HNu.out.far with h0 | h0
                  · exact .inl h0
                  · exact .inr fun a ha => Nat.ne_of_lt (h0 a ha)
                · rcases HDu.out.far with h0 | h0
                  · exact .inl h0
                  · exact .inr fun a ha => Nat.ne_of_lt (h0 a ha)
              have Hoffs := hide hoffs
              have HGr := hide (fun r hr W h => getR_any qa ja ba c' r hr W h)
              clear hoffs hgd hgd' hls hs hs' hla hlb hwa hwb
              go_loopw [8] (fun i wr => ∃ (k : Nat) (S : Sn), k ≤ 5 ∧ i = .int .i64 ((k : Int) + 1) ∧ Hid (VS u S wr) ∧ Hid (InvS S (P1 (vec c, m) (vec c') k) (40 + 200 * k))) (fun i _ => 6 - (intOf i).toNat)
              case atStart => exact ⟨0, (vec c, m), by omega, rfl, ⟨bel1 _ _, pa, na, ca, pm, nm, cm, heap_alloc_new _ _, by show NS _ pa na (pln (vec c)); rw [HPl.out]; exact HNu.out.alloc _, HCa.out, HDu.out.alloc _, HCm.out, Hoffs.out.1, Hoffs.out.2⟩, HI0⟩
              case round =>
                obtain ⟨k, S, hk, rfl, HV, HI⟩ := hrel
                by_cases hlt : k < 5
                · have hle : ((k : Int) + 1 ≤ 5) := by omega
                  have HG := hide (fun W h => HGr.out ((k : Int) + 1) (by omega) W h)
                  have hgz : getZ c' ((k : Int) + 1) = at5 c' k := by unfold getZ; rw [if_pos (by omega), show ((k : Int) + 1).toNat - 1 = k by omega]
                  rw [hgz] at HG
                  have hN0 := at5_bd c' k
                  have hN1 := Hat.out k hlt
                  have HNk : Hid (at5 c' k = (vec c').getD k 0) := (vec_getD c' k hlt).symm
                  have HI2 := hide (inv12 HI.out)
                  generalize at5 c' k = z at *
                  clear hgz
                  go_wp2
                  go_loopw [9] (fun i wr => ∃ (n : Nat) (S : Sn), 1 ≤ n ∧ (n : Int) ≤ z + 1 ∧ i = .int .i64 n ∧ Hid (VS u S wr) ∧ Hid (InvS S (P2 (vec c, m) (vec c') k n) (40 + 200 * k + (n - 1)))) (fun i _ => (z + 2).toNat - (intOf i).toNat)
                  case atStart => exact ⟨1, S, by omega, by omega, rfl, HV, HI2⟩
                  case round =>
                    clear HV HI HI2
                    obtain ⟨n, S, hn1, hnz, rfl, HV, HI⟩ := hrel
                    obtain ⟨hB, q1, j1, b1, q2, j2, b2, hg, hns, hcp, hds, hcq, ho1, ho2⟩ := HV.out
                    have w0c : wr.cell? ⟨u.heap.size, 0, none⟩ = some (.slice q1 j1 b1) := by rw [cell_of_row wr _ _ _ _ _ hg]; rfl
                    have w1c : wr.cell? ⟨u.heap.size, 1, none⟩ = some (.slice q2 j2 b2) := by rw [cell_of_row wr _ _ _ _ _ hg]; rfl
                    have hsg : u.heap.size < wr.heap.size := (Array.getElem?_eq_some_iff.1 hg).1
                    have v0 := bcell hB t0
                    have v1 := bcell hB t1
                    by_cases hnle : (n : Int) ≤ z
                    · have hmx : mayD ((k : Int) + 1, (n : Int)) = true := mayD_iff.2 ⟨by show 1 ≤ (k : Int) + 1; omega, by show (k : Int) + 1 ≤ 5; omega, by show 1 ≤ (n : Int); omega, by show (n : Int) ≤ 1048576; omega⟩
                      have HI3 : Hid (InvS (addR S ((k : Int) + 1, (n : Int))) (P2 (vec c, m) (vec c') k ((n + 1 : Nat) : Int)) (40 + 200 * k + (n + 1 - 1))) := by
                        have y := inv2s HI.out hmx
                        have e : 40 + 200 * k + (n - 1) + 1 = 40 + 200 * k + (n + 1 - 1) := by omega
                        rw [e] at y
                        exact y
                      have hvp : vec (pln S.1) = S.1 := vec_pln S.1 HI.out.1.1.1 HI.out.1.1.2
                      have hdl : j2 ≤ 10000 := by rw [← hds.1]; have := HI.out.2.2; omega
                      have HAd := hide (fun W (h : NS W q1 j1 (pln S.1)) (kd : DS W q2 j2 S.2) => AddR_any q1 q2 j1 b1 j2 b2 (pln S.1) S.2 ((k : Int) + 1, (n : Int)) W h hcp kd hcq (by rw [hvp]; exact HI.out.1) (by rw [hvp]) hmx hdl)
                      rw [hvp] at HAd
                      have HNs := hide hns
                      have HDs := hide hds
                      have HBw := hide hB
                      have Hg := hide hg
                      have Ho := hide (And.intro ho1 ho2)
                      clear hns hds hB hg hcp hcq ho1 ho2 hmx hvp hdl HV
                      have HGk := hide (HG.out wr (HNv.out.below HBw.out))
                      go_wp2_with fail
                      refine Calls.mono HGk.out ?_
                      rintro e w8 ⟨rfl, hw⟩
                      replace hw := hw.symm
                      subst hw
                      go_wp2_with fail
                      refine Calls.mono (HAd.out _ HNs.out HDs.out) ?_
                      rintro e w9 ⟨⟨p3, k3, b3, p4, k4, b4, rfl, hns3, hcp3, hds3, hcp4, hoff⟩, hb9⟩
                      have g9 : w9.heap[u.heap.size]? = some (.cells #[.slice q1 j1 b1, .slice q2 j2 b2] 26 (0, 0)) := by rw [hb9.block _ hsg]; exact Hg.out
                      have a0 : w9.cell? ⟨u.heap.size, 0, none⟩ = some (.slice q1 j1 b1) := by rw [cell_of_row w9 _ _ _ _ _ g9]; rfl
                      have a1 : w9.cell? ⟨u.heap.size, 1, none⟩ = some (.slice q2 j2 b2) := by rw [cell_of_row w9 _ _ _ _ _ g9]; rfl
                      have z0 : w9.frozen? ⟨u.heap.size, 0, none⟩ = false := by simp [World.frozen?, g9]
                      have z1 : w9.frozen? ⟨u.heap.size, 1, none⟩ = false := by simp [World.frozen?, g9]
                      have hof := hoff u.heap.size hsg Ho.out.1 Ho.out.2
                      have HV2 : Hid (VS u (addR S ((k : Int) + 1, (n : Int))) ((w9.setCell ⟨u.heap.size, 0, none⟩ (.slice p3 k3 b3)).setCell ⟨u.heap.size, 1, none⟩ (.slice p4 k4 b4))) := VS.put (bel_next HBw.out hb9) g9 hns3 hcp3 hds3 hcp4 hof.1 hof.2
                      clear hns3 hcp3 hds3 hcp4 hoff hb9 g9 hof
                      go_wp2
                      go_roundw
                      case rel => exact ⟨n + 1, _, by omega, by omega, by go_num, HV2, HI3⟩
                      case measure => simp [intOf]; omega
                    · have hnn : (n : Int) = z + 1 := by omega
                      have HI3 : Hid (InvS S (P1 (vec c, m) (vec c') (k + 1)) (40 + 200 * (k + 1))) := by
                        have y := HI.out
                        rw [hnn] at y
                        have y2 := inv21 y HNk.out
                        exact ⟨y2.1, y2.2.1, by have := y2.2.2; omega⟩
                      have HGk := hide (HG.out wr (HNv.out.below hB))
                      clear hns hds hB hg hcp hcq ho1 ho2
                      go_wp2_with fail
                      refine Calls.mono HGk.out ?_
                      rintro e w8 ⟨rfl, hw⟩
                      replace hw := hw.symm
                      subst hw
                      go_wp2
                      go_roundw
                      case rel => exact ⟨k + 1, S, by omega, by go_num, HV, HI3⟩
                      case measure => simp [intOf]; omega
                · have hle' : ¬ ((k : Int) + 1 ≤ 5) := by omega
                  have hI5 : InvS S (P1 (vec c, m) (vec c') 5) (40 + 200 * 5) := by
                    have hk5 : k = 5 := by omega
                    have y := HI.out
                    rw [hk5] at y
                    exact y
                  have HI2 := hide (inv13 m' hI5)
                  clear hI5
                  clear HI
                  go_wp2
                  go_loopw [10] (fun i wr => ∃ (k : Nat) (S : Sn), k ≤ jm ∧ i = .int .i64 k ∧ Hid (VS u S wr) ∧ Hid (InvS S (P3 (vec c, m) (vec c') m' k) (1040 + k))) (fun i _ => jm - (intOf i).toNat)
                  case atStart => exact ⟨0, S, by omega, rfl, HV, HI2⟩
                  case round =>
                    clear HV HI2
                    obtain ⟨k, S, hk, rfl, HV, HI⟩ := hrel
                    obtain ⟨hB, q1, j1, b1, q2, j2, b2, hg, hns, hcp, hds, hcq, ho1, ho2⟩ := HV.out
                    have w0c : wr.cell? ⟨u.heap.size, 0, none⟩ = some (.slice q1 j1 b1) := by rw [cell_of_row wr _ _ _ _ _ hg]; rfl
                    have w1c : wr.cell? ⟨u.heap.size, 1, none⟩ = some (.slice q2 j2 b2) := by rw [cell_of_row wr _ _ _ _ _ hg]; rfl
                    have hsg : u.heap.size < wr.heap.size := (Array.getElem?_eq_some_iff.1 hg).1
                    have v0 := bcell hB t0
                    have v1 := bcell hB t1
                    by_cases hlt : k < jm
                    · rcases HDv.out.2.2 with h0 | ⟨b, off, hqm, hc⟩
                      · omega
                      · subst hqm
                        have y0 := bcell hB (hc k hlt).1
                        have y1 := bcell hB (hc k hlt).2
                        have hkl : k < m'.length := by rw [Hlm.out]; exact hlt
                        have hmx := HMb.out _ (getDot_mem hkl)
                        have HI3 := hide (inv3s HI.out hkl hmx)
                        obtain ⟨x, hx⟩ : ∃ x, m'.getD k (0, 0) = x := ⟨_, rfl⟩
                        rw [hx] at y0 y1 hmx HI3
                        have hvp : vec (pln S.1) = S.1 := vec_pln S.1 HI.out.1.1.1 HI.out.1.1.2
                        have hdl : j2 ≤ 10000 := by rw [← hds.1]; have := HI.out.2.2; omega
                        have HAd := hide (fun W (h : NS W q1 j1 (pln S.1)) (kd : DS W q2 j2 S.2) => AddR_any q1 q2 j1 b1 j2 b2 (pln S.1) S.2 x W h hcp kd hcq (by rw [hvp]; exact HI.out.1) (by rw [hvp]) hmx hdl)
                        rw [hvp] at HAd
                        have HNs := hide hns
                        have HDs := hide hds
                        have HBw := hide hB
                        have Hg := hide hg
                        have Ho := hide (And.intro ho1 ho2)
                        clear hns hds hB hg hcp hcq ho1 ho2 hmx hvp hdl HV
                        clear hc hx hkl
                        obtain ⟨r9, s9⟩ := x
                        go_wp2
                        refine wp_region_any (by kernel_rfl) ?_
                        change wpAny _ _ _ _ _ _ _ (World.drew _)
                        refine takeP 1 93 ?v22 rfl rfl (by kernel_rfl) (by kernel_rfl) (by kernel_rfl) (fun _ _ _ h => h) (by kernel_rfl) ?hy22 ?_
                        case hy22 => (intro W; go_simp; try rfl)
                        simp only [Act.put, List.setIfInBounds_toArray, List.set_cons_zero, List.set_cons_succ]
                        refine takeP 3 95 ?v23 rfl rfl (by kernel_rfl) (by kernel_rfl) (by kernel_rfl) (fun _ _ _ h => h) (by kernel_rfl) ?hy23 ?_
                        case hy23 => (intro W; go_simp; try rfl)
                        simp only [Act.put, List.setIfInBounds_toArray, List.set_cons_zero, List.set_cons_succ]
                        refine wpAny_ready (rs := [0, 2]) (by kernel_rfl) (by simp) ?_
                        refine AllReady.cons rfl (fun K hK => ?_) (AllReady.cons rfl (fun K hK => ?_) AllReady.nil)
                        · go_simp
                          first | (refine hK _ _ ?_; clear hK K) | skip
                          try simp only [Act.put, List.setIfInBounds_toArray, List.set_cons_zero, List.set_cons_succ]
                          refine wpAny_ready (rs := [2]) (by kernel_rfl) (by simp) ?_
                          refine AllReady.cons rfl (fun K hK => ?_) AllReady.nil
                          go_simp
                          first | (refine hK _ _ ?_; clear hK K) | skip
                          try simp only [Act.put, List.setIfInBounds_toArray, List.set_cons_zero, List.set_cons_succ]
                          refine takeP 4 96 ?v24 rfl rfl (by kernel_rfl) (by kernel_rfl) (by kernel_rfl) (fun _ _ _ h => h) (by kernel_rfl) ?hy24 ?_
                          case hy24 => (intro W; go_simp; try rfl)
                          simp only [Act.put, List.setIfInBounds_toArray, List.set_cons_zero, List.set_cons_succ]
                          refine wpAny_ready (rs := [5]) (by kernel_rfl) (by simp) ?_
                          refine AllReady.cons rfl (fun K hK => ?_) AllReady.nil
                          go_simp
                          first | (refine hK _ _ ?_; clear hK K) | skip
                          try simp only [Act.put, List.setIfInBounds_toArray, List.set_cons_zero, List.set_cons_succ]
                          refine wpAny_ready (rs := [6]) (by kernel_rfl) (by simp) ?_
                          refine AllReady.cons rfl (fun K hK => ?_) AllReady.nil
                          go_simp
                          refine Calls.mono (HAd.out _ HNs.out HDs.out) ?_
                          rintro e w9 ⟨⟨p3, k3, b3, p4, k4, b4, rfl, hns3, hcp3, hds3, hcp4, hoff⟩, hb9⟩
                          have g9 : w9.heap[u.heap.size]? = some (.cells #[.slice q1 j1 b1, .slice q2 j2 b2] 26 (0, 0)) := by rw [hb9.block _ hsg]; exact Hg.out
                          have a0 : w9.cell? ⟨u.heap.size, 0, none⟩ = some (.slice q1 j1 b1) := by rw [cell_of_row w9 _ _ _ _ _ g9]; rfl
                          have a1 : w9.cell? ⟨u.heap.size, 1, none⟩ = some (.slice q2 j2 b2) := by rw [cell_of_row w9 _ _ _ _ _ g9]; rfl
                          have z0 : w9.frozen? ⟨u.heap.size, 0, none⟩ = false := by simp [World.frozen?, g9]
                          have z1 : w9.frozen? ⟨u.heap.size, 1, none⟩ = false := by simp [World.frozen?, g9]
                          have hof := hoff u.heap.size hsg Ho.out.1 Ho.out.2
                          have HV2 : Hid (VS u (addR S (r9, s9)) ((w9.setCell ⟨u.heap.size, 0, none⟩ (.slice p3 k3 b3)).setCell ⟨u.heap.size, 1, none⟩ (.slice p4 k4 b4))) := VS.put (bel_next HBw.out.drew hb9) g9 hns3 hcp3 hds3 hcp4 hof.1 hof.2
                          clear hns3 hcp3 hds3 hcp4 hoff hb9 g9 hof
                          try go_wp2_with fail
                          first | (refine hK _ _ ?_; clear hK K) | skip
                          try simp only [Act.put, List.setIfInBounds_toArray, List.set_cons_zero, List.set_cons_succ]
                          refine wpAny_ready (rs := [7]) (by kernel_rfl) (by simp) ?_
                          refine AllReady.cons rfl (fun K hK => ?_) AllReady.nil
                          go_simp
                          first | (refine hK _ _ ?_; clear hK K) | skip
                          try simp only [Act.put, List.setIfInBounds_toArray, List.set_cons_zero, List.set_cons_succ]
                          refine wpAny_done (by kernel_rfl) ?_ _
                          go_wp2
                          go_roundw
                          case rel => exact ⟨k + 1, _, by omega, by go_num, HV2, HI3⟩
                          case measure => simp [intOf]; omega
                        · go_simp
                          first | (refine hK _ _ ?_; clear hK K) | skip
                          try simp only [Act.put, List.setIfInBounds_toArray, List.set_cons_zero, List.set_cons_succ]
                          refine takeP 4 96 ?v25 rfl rfl (by kernel_rfl) (by kernel_rfl) (by kernel_rfl) (fun _ _ _ h => h) (by kernel_rfl) ?hy25 ?_
                          case hy25 => (intro W; go_simp; try rfl)
                          simp only [Act.put, List.setIfInBounds_toArray, List.set_cons_zero, List.set_cons_succ]
                          refine wpAny_ready (rs := [0, 5]) (by kernel_rfl) (by simp) ?_
                          refine AllReady.cons rfl (fun K hK => ?_) (AllReady.cons rfl (fun K hK => ?_) AllReady.nil)
                          · go_simp
                            first | (refine hK _ _ ?_; clear hK K) | skip
                            try simp only [Act.put, List.setIfInBounds_toArray, List.set_cons_zero, List.set_cons_succ]
                            refine wpAny_ready (rs := [5]) (by kernel_rfl) (by simp) ?_
                            refine AllReady.cons rfl (fun K hK => ?_) AllReady.nil
                            go_simp
                            first | (refine hK _ _ ?_; clear hK K) | skip
                            try simp only [Act.put, List.setIfInBounds_toArray, List.set_cons_zero, List.set_cons_succ]
                            refine wpAny_ready (rs := [6]) (by kernel_rfl) (by simp) ?_
                            refine AllReady.cons rfl (fun K hK => ?_) AllReady.nil
                            go_simp
                            refine Calls.mono (HAd.out _ HNs.out HDs.out) ?_
                            rintro e w9 ⟨⟨p3, k3, b3, p4, k4, b4, rfl, hns3, hcp3, hds3, hcp4, hoff⟩, hb9⟩
                            have g9 : w9.heap[u.heap.size]? = some (.cells #[.slice q1 j1 b1, .slice q2 j2 b2] 26 (0, 0)) := by rw [hb9.block _ hsg]; exact Hg.out
                            have a0 : w9.cell? ⟨u.heap.size, 0, none⟩ = some (.slice q1 j1 b1) := by rw [cell_of_row w9 _ _ _ _ _ g9]; rfl
                            have a1 : w9.cell? ⟨u.heap.size, 1, none⟩ = some (.slice q2 j2 b2) := by rw [cell_of_row w9 _ _ _ _ _ g9]; rfl
                            have z0 : w9.frozen? ⟨u.heap.size, 0, none⟩ = false := by simp [World.frozen?, g9]
                            have z1 : w9.frozen? ⟨u.heap.size, 1, none⟩ = false := by simp [World.frozen?, g9]
                            have hof := hoff u.heap.size hsg Ho.out.1 Ho.out.2
                            have HV2 : Hid (VS u (addR S (r9, s9)) ((w9.setCell ⟨u.heap.size, 0, none⟩ (.slice p3 k3 b3)).setCell ⟨u.heap.size, 1, none⟩ (.slice p4 k4 b4))) := VS.put (bel_next HBw.out.drew hb9) g9 hns3 hcp3 hds3 hcp4 hof.1 hof.2
                            clear hns3 hcp3 hds3 hcp4 hoff hb9 g9 hof
                            try go_wp2_with fail
                            first | (refine hK _ _ ?_; clear hK K) | skip
                            try simp only [Act.put, List.setIfInBounds_toArray, List.set_cons_zero, List.set_cons_succ]
                            refine wpAny_ready (rs := [7]) (by kernel_rfl) (by simp) ?_
                            refine AllReady.cons rfl (fun K hK => ?_) AllReady.nil
                            go_simp
                            first | (refine hK _ _ ?_; clear hK K) | skip
                            try simp only [Act.put, List.setIfInBounds_toArray, List.set_cons_zero, List.set_cons_succ]
                            refine wpAny_done (by kernel_rfl) ?_ _
                            go_wp2
                            go_roundw
                            case rel => exact ⟨k + 1, _, by omega, by go_num, HV2, HI3⟩
                            case measure => simp [intOf]; omega
                          · go_simp
                            first | (refine hK _ _ ?_; clear hK K) | skip
                            try simp only [Act.put, List.setIfInBounds_toArray, List.set_cons_zero, List.set_cons_succ]
                            refine wpAny_ready (rs := [0]) (by kernel_rfl) (by simp) ?_
                            refine AllReady.cons rfl (fun K hK => ?_) AllReady.nil
                            go_simp
                            first | (refine hK _ _ ?_; clear hK K) | skip
                            try simp only [Act.put, List.setIfInBounds_toArray, List.set_cons_zero, List.set_cons_succ]
                            refine wpAny_ready (rs := [6]) (by kernel_rfl) (by simp) ?_
                            refine AllReady.cons rfl (fun K hK => ?_) AllReady.nil
                            go_simp
                            refine Calls.mono (HAd.out _ HNs.out HDs.out) ?_
                            rintro e w9 ⟨⟨p3, k3, b3, p4, k4, b4, rfl, hns3, hcp3, hds3, hcp4, hoff⟩, hb9⟩
                            have g9 : w9.heap[u.heap.size]? = some (.cells #[.slice q1 j1 b1, .slice q2 j2 b2] 26 (0, 0)) := by rw [hb9.block _ hsg]; exact Hg.out
                            have a0 : w9.cell? ⟨u.heap.size, 0, none⟩ = some (.slice q1 j1 b1) := by rw [cell_of_row w9 _ _ _ _ _ g9]; rfl
                            have a1 : w9.cell? ⟨u.heap.size, 1, none⟩ = some (.slice q2 j2 b2) := by rw [cell_of_row w9 _ _ _ _ _ g9]; rfl
                            have z0 : w9.frozen? ⟨u.heap.size, 0, none⟩ = false := by simp [World.frozen?, g9]
                            have z1 : w9.frozen? ⟨u.heap.size, 1, none⟩ = false := by simp [World.frozen?, g9]
                            have hof := hoff u.heap.size hsg Ho.out.1 Ho.out.2
                            have HV2 : Hid (VS u (addR S (r9, s9)) ((w9.setCell ⟨u.heap.size, 0, none⟩ (.slice p3 k3 b3)).setCell ⟨u.heap.size, 1, none⟩ (.slice p4 k4 b4))) := VS.put (bel_next HBw.out.drew hb9) g9 hns3 hcp3 hds3 hcp4 hof.1 hof.2
                            clear hns3 hcp3 hds3 hcp4 hoff hb9 g9 hof
                            try go_wp2_with fail
                            first | (refine hK _ _ ?_; clear hK K) | skip
                            try simp only [Act.put, List.setIfInBounds_toArray, List.set_cons_zero, List.set_cons_succ]
                            refine wpAny_ready (rs := [7]) (by kernel_rfl) (by simp) ?_
                            refine AllReady.cons rfl (fun K hK => ?_) AllReady.nil
                            go_simp
                            first | (refine hK _ _ ?_; clear hK K) | skip
                            try simp only [Act.put, List.setIfInBounds_toArray, List.set_cons_zero, List.set_cons_succ]
                            refine wpAny_done (by kernel_rfl) ?_ _
                            go_wp2
                            go_roundw
                            case rel => exact ⟨k + 1, _, by omega, by go_num, HV2, HI3⟩
                            case measure => simp [intOf]; omega
                    · have hkl : k = jm := by omega
                      have hSj : S = joinF c c' m m' := by
                        have y := HI.out
                        rw [hkl, ← Hlm.out] at y
                        exact invEnd HBoth.out.1 HBoth.out.2 y
                      subst hSj
                      replace HU := hide (bel_next HU.out hB)
                      replace NX := hide (NX.out.below hB)
                      replace DX := hide (DX.out.below hB)
                      replace s0 := bcell hB s0
                      replace s1 := bcell hB s1
                      replace t0 := bcell hB t0
                      replace t1 := bcell hB t1
                      replace x0 := bcell hB x0
                      replace x1 := bcell hB x1
                      have HNs := hide hns
                      have HDs := hide hds
                      clear hns hds hB hg hcp hcq ho1 ho2 HV HI v0 v1
                      generalize joinF c c' m m' = J at *
                      have HT1 := hide (fun W (h1 : NS W p1 k1 (pln J.1)) (h2 : DS W p2 k2 J.2) (h3 : NS W q1 j1 (pln J.1)) (h4 : DS W q2 j2 J.2) => SameR_any p1 p2 q1 q2 k1 e1 k2 e2 j1 b1 j2 b2 (pln J.1) (pln J.1) J.2 J.2 W h1 h2 h3 h4)
                      rw [decide_eq_true rfl, decide_eq_true rfl] at HT1
                      have HT2 := hide (fun W (h1 : NS W q1 j1 (pln J.1)) (h2 : DS W q2 j2 J.2) (h3 : NS W pa na c) (h4 : DS W pm nm m) => SameR_any q1 q2 pa pm j1 b1 j2 b2 na ca nm cm (pln J.1) c J.2 m W h1 h2 h3 h4)
                      rw [Hls.out] at HLk
                      generalize (decide (pln J.1 = c) && decide (J.2 = m)) = bj at *
                      generalize wr = u9 at *
                      go_wp2
                      refine wp_region_held_drew (S := fun W => Below u9.heap.size u9 W) (by kernel_rfl) ((Below.refl _ u9).drew) (fun hS0 => ?_)
                      refine takeInH 0 99 ?v26 rfl rfl (by kernel_rfl) (by kernel_rfl) (by kernel_rfl) (fun _ _ _ h => h) (by kernel_rfl) hS0 ?hy26 ?_
                      case hy26 => (intro W hW; clear hW; go_simp; try rfl)
                      simp only [Act.put, List.setIfInBounds_toArray, List.set_cons_zero, List.set_cons_succ]
                      refine takeInH 1 100 ?v27 rfl rfl (by kernel_rfl) (by kernel_rfl) (by kernel_rfl) (fun _ _ _ h => h) (by kernel_rfl) hS0 ?hy27 ?_
                      case hy27 => (intro W hW; clear hW; go_simp; try rfl)
                      simp only [Act.put, List.setIfInBounds_toArray, List.set_cons_zero, List.set_cons_succ]
                      refine takeInH 2 101 ?v28 rfl rfl (by kernel_rfl) (by kernel_rfl) (by kernel_rfl) (fun _ _ _ h => h) (by kernel_rfl) hS0 ?hy28 ?_
                      case hy28 => (intro W hW; clear hW; go_simp; try rfl)
                      simp only [Act.put, List.setIfInBounds_toArray, List.set_cons_zero, List.set_cons_succ]
                      refine takeInH 3 102 ?v29 rfl rfl (by kernel_rfl) (by kernel_rfl) (by kernel_rfl) (fun _ _ _ h => h) (by kernel_rfl) hS0 ?hy29 ?_
                      case hy29 => (intro W hW; have e0 := bcell hW s0; have e1 := bcell hW s1; have e2 := bcell hW t0; have e3 := bcell hW t1; have e4 := bcell hW x0; have e5 := bcell hW x1; have e6 := bcell hW w0c; have e7 := bcell hW w1c; clear hW; go_simp; try rfl)
                      simp only [Act.put, List.setIfInBounds_toArray, List.set_cons_zero, List.set_cons_succ]
                      refine takeInH 4 103 ?v30 rfl rfl (by kernel_rfl) (by kernel_rfl) (by kernel_rfl) (fun _ _ _ h => h) (by kernel_rfl) hS0 ?hy30 ?_
                      case hy30 => (intro W hW; have e0 := bcell hW s0; have e1 := bcell hW s1; have e2 := bcell hW t0; have e3 := bcell hW t1; have e4 := bcell hW x0; have e5 := bcell hW x1; have e6 := bcell hW w0c; have e7 := bcell hW w1c; clear hW; go_simp; try rfl)
                      simp only [Act.put, List.setIfInBounds_toArray, List.set_cons_zero, List.set_cons_succ]
                      refine wpAnyH_ready (rs := [5]) (by kernel_rfl) (by simp) ?_
                      refine AllReadyH.cons rfl (fun K hK => ?_) AllReadyH.nil
                      go_simp
                      refine Calls.mono (HT1.out _ (NX.out.below hS0) (DX.out.below hS0) (HNs.out.below hS0) (HDs.out.below hS0)) ?_
                      rintro e w' ⟨rfl, hb⟩
                      try go_wp2_with fail
                      refine hK.out _ _ ?hs31 (fun hS1 => ?_)
                      case hs31 => exact bel_next hS0 hb
                      clear hK K hb
                      try simp only [Act.put, List.setIfInBounds_toArray, List.set_cons_zero, List.set_cons_succ]
                      refine takeInH 6 105 ?v32 rfl rfl (by kernel_rfl) (by kernel_rfl) (by kernel_rfl) (fun _ _ _ h => h) (by kernel_rfl) hS1 ?hy32 ?_
                      case hy32 => (intro W hW; clear hW; go_simp; try rfl)
                      simp only [Act.put, List.setIfInBounds_toArray, List.set_cons_zero, List.set_cons_succ]
                      refine takeInH 7 106 ?v33 rfl rfl (by kernel_rfl) (by kernel_rfl) (by kernel_rfl) (fun _ _ _ h => h) (by kernel_rfl) hS1 ?hy33 ?_
                      case hy33 => (intro W hW; clear hW; go_simp; try rfl)
                      simp only [Act.put, List.setIfInBounds_toArray, List.set_cons_zero, List.set_cons_succ]
                      refine takeInH 8 107 ?v34 rfl rfl (by kernel_rfl) (by kernel_rfl) (by kernel_rfl) (fun _ _ _ h => h) (by kernel_rfl) hS1 ?hy34 ?_
                      case hy34 => (intro W hW; have e0 := bcell hW s0; have e1 := bcell hW s1; have e2 := bcell hW t0; have e3 := bcell hW t1; have e4 := bcell hW x0; have e5 := bcell hW x1; have e6 := bcell hW w0c; have e7 := bcell hW w1c; clear hW; go_simp; try rfl)
                      simp only [Act.put, List.setIfInBounds_toArray, List.set_cons_zero, List.set_cons_succ]
                      refine takeInH 9 108 ?v35 rfl rfl (by kernel_rfl) (by kernel_rfl) (by kernel_rfl) (fun _ _ _ h => h) (by kernel_rfl) hS1 ?hy35 ?_
                      case hy35 => (intro W hW; have e0 := bcell hW s0; have e1 := bcell hW s1; have e2 := bcell hW t0; have e3 := bcell hW t1; have e4 := bcell hW x0; have e5 := bcell hW x1; have e6 := bcell hW w0c; have e7 := bcell hW w1c; clear hW; go_simp; try rfl)
                      simp only [Act.put, List.setIfInBounds_toArray, List.set_cons_zero, List.set_cons_succ]
                      refine takeInH 11 110 ?v36 rfl rfl (by kernel_rfl) (by kernel_rfl) (by kernel_rfl) (fun _ _ _ h => h) (by kernel_rfl) hS1 ?hy36 ?_
                      case hy36 => (intro W hW; have e0 := bcell hW s0; have e1 := bcell hW s1; have e2 := bcell hW t0; have e3 := bcell hW t1; have e4 := bcell hW x0; have e5 := bcell hW x1; have e6 := bcell hW w0c; have e7 := bcell hW w1c; clear hW; go_simp; try rfl)
                      simp only [Act.put, List.setIfInBounds_toArray, List.set_cons_zero, List.set_cons_succ]
                      refine takeInH 12 111 ?v37 rfl rfl (by kernel_rfl) (by kernel_rfl) (by kernel_rfl) (fun _ _ _ h => h) (by kernel_rfl) hS1 ?hy37 ?_
                      case hy37 => (intro W hW; have e0 := bcell hW s0; have e1 := bcell hW s1; have e2 := bcell hW t0; have e3 := bcell hW t1; have e4 := bcell hW x0; have e5 := bcell hW x1; have e6 := bcell hW w0c; have e7 := bcell hW w1c; clear hW; go_simp; try rfl)
                      simp only [Act.put, List.setIfInBounds_toArray, List.set_cons_zero, List.set_cons_succ]
                      refine wpAnyH_ready (rs := [10]) (by kernel_rfl) (by simp) ?_
                      refine AllReadyH.cons rfl (fun K hK => ?_) AllReadyH.nil
                      go_simp
                      refine Calls.mono (HLk.out _ (HN.out.below (bel_next HU.out hS1)) (HD.out.below (bel_next HU.out hS1)) (HN'.out.below (bel_next HU.out hS1)) (HD'.out.below (bel_next HU.out hS1))) ?_
                      rintro e w' ⟨rfl, hb⟩
                      try go_wp2_with fail
                      refine hK.out _ _ ?hs38 (fun hS2 => ?_)
                      case hs38 => exact bel_next hS1 hb
                      clear hK K hb
                      try simp only [Act.put, List.setIfInBounds_toArray, List.set_cons_zero, List.set_cons_succ]
                      refine wpAnyH_ready (rs := [13]) (by kernel_rfl) (by simp) ?_
                      refine AllReadyH.cons rfl (fun K hK => ?_) AllReadyH.nil
                      go_simp
                      refine Calls.mono (HT2.out _ (HNs.out.below hS2) (HDs.out.below hS2) (HN.out.below (bel_next HU.out hS2)) (HD.out.below (bel_next HU.out hS2))) ?_
                      rintro e w' ⟨rfl, hb⟩
                      try go_wp2_with fail
                      refine hK.out _ _ ?hs39 (fun hS3 => ?_)
                      case hs39 => exact bel_next hS2 hb
                      clear hK K hb
                      try simp only [Act.put, List.setIfInBounds_toArray, List.set_cons_zero, List.set_cons_succ]
                      refine takeInH 14 113 ?v40 rfl rfl (by kernel_rfl) (by kernel_rfl) (by kernel_rfl) (fun _ _ _ h => h) (by kernel_rfl) hS3 ?hy40 ?_
                      case hy40 => (intro W hW; clear hW; go_simp; try rfl)
                      simp only [Act.put, List.setIfInBounds_toArray, List.set_cons_zero, List.set_cons_succ]
                      refine takeInH 15 114 ?v41 rfl rfl (by kernel_rfl) (by kernel_rfl) (by kernel_rfl) (fun _ _ _ h => h) (by kernel_rfl) hS3 ?hy41 ?_
                      case hy41 => (intro W hW; clear hW; go_simp; try rfl)
                      simp only [Act.put, List.setIfInBounds_toArray, List.set_cons_zero, List.set_cons_succ]
                      refine takeInH 16 115 ?v42 rfl rfl (by kernel_rfl) (by kernel_rfl) (by kernel_rfl) (fun _ _ _ h => h) (by kernel_rfl) hS3 ?hy42 ?_
                      case hy42 => (intro W hW; clear hW; go_simp; try rfl)
                      simp only [Act.put, List.setIfInBounds_toArray, List.set_cons_zero, List.set_cons_succ]
                      refine takeInH 17 116 ?v43 rfl rfl (by kernel_rfl) (by kernel_rfl) (by kernel_rfl) (fun _ _ _ h => h) (by kernel_rfl) hS3 ?hy43 ?_
                      case hy43 => (intro W hW; clear hW; go_simp; try rfl)
                      simp only [Act.put, List.setIfInBounds_toArray, List.set_cons_zero, List.set_cons_succ]
                      refine wpAnyH_ready (rs := [18]) (by kernel_rfl) (by simp) ?_
                      refine AllReadyH.cons rfl (fun K hK => ?_) AllReadyH.nil
                      go_simp
                      refine Calls.mono (awake4 _) ?_
                      rintro e w' ⟨rfl, hb⟩
                      try go_wp2_with fail
                      refine hK.out _ _ ?hs44 (fun hS4 => ?_)
                      case hs44 => exact bel_next hS3 hb
                      clear hK K hb
                      try simp only [Act.put, List.setIfInBounds_toArray, List.set_cons_zero, List.set_cons_succ]
                      refine takeInH 19 118 ?v45 rfl rfl (by kernel_rfl) (by kernel_rfl) (by kernel_rfl) (fun _ _ _ h => h) (by kernel_rfl) hS4 ?hy45 ?_
                      case hy45 => (intro W hW; clear hW; go_simp; try rfl)
                      simp only [Act.put, List.setIfInBounds_toArray, List.set_cons_zero, List.set_cons_succ]
                      refine takeInH 20 4 ?v46 rfl rfl (by kernel_rfl) (by kernel_rfl) (by kernel_rfl) (fun _ _ _ h => h) (by kernel_rfl) hS4 ?hy46 ?_
                      case hy46 => (intro W hW; clear hW; go_simp; try rfl)
                      simp only [Act.put, List.setIfInBounds_toArray, List.set_cons_zero, List.set_cons_succ]
                      refine wpAnyH_done (by kernel_rfl) ?_ _
                      go_wp2
                      go_ret
                      exact ⟨rfl, bel_next HU.out hS4⟩
        · go_enter Try.func4, Try.ntmps4
          go_wp2_with fail
          refine Calls.mono (light4 pa pm na ca nm cm _ true (decide_eq_true hla) hna hnm) ?_
          rintro e u ⟨rfl, hb⟩
          replace s0 := bcell hb s0
          replace s1 := bcell hb s1
          replace t0 := bcell hb t0
          replace t1 := bcell hb t1
          replace HU := hide (bel_next HU.out hb)
          clear hb
          go_wp2_with fail
          refine Calls.mono (light4 qa qm ja ba jm bm _ true (decide_eq_true hlb) hja hjm) ?_
          rintro e u ⟨rfl, hb⟩
          replace s0 := bcell hb s0
          replace s1 := bcell hb s1
          replace t0 := bcell hb t0
          replace t1 := bcell hb t1
          replace HU := hide (bel_next HU.out hb)
          clear hb
          go_wp2_with fail
          refine Calls.mono (low4 pa pm na ca nm cm c _ true (decide_eq_true hwa) (HN.out.below HU.out)) ?_
          rintro e u ⟨rfl, hb⟩
          replace s0 := bcell hb s0
          replace s1 := bcell hb s1
          replace t0 := bcell hb t0
          replace t1 := bcell hb t1
          replace HU := hide (bel_next HU.out hb)
          clear hb
          go_wp2_with fail
          refine Calls.mono (low4 qa qm ja ba jm bm c' _ false (decide_eq_false (by omega)) (HN'.out.below HU.out)) ?_
          rintro e u ⟨rfl, hb⟩
          replace s0 := bcell hb s0
          replace s1 := bcell hb s1
          replace t0 := bcell hb t0
          replace t1 := bcell hb t1
          replace HU := hide (bel_next HU.out hb)
          clear hb
          go_wp2_with fail
          refine Calls.mono (awake4 _) ?_
          rintro e u ⟨rfl, hb⟩
          replace s0 := bcell hb s0
          replace s1 := bcell hb s1
          replace t0 := bcell hb t0
          replace t1 := bcell hb t1
          replace HU := hide (bel_next HU.out hb)
          clear hb
          go_wp2
          go_ret
          exact ⟨rfl, HU.out⟩
      · go_enter Try.func4, Try.ntmps4
        go_wp2_with fail
        refine Calls.mono (light4 pa pm na ca nm cm _ true (decide_eq_true hla) hna hnm) ?_
        rintro e u ⟨rfl, hb⟩
        replace s0 := bcell hb s0
        replace s1 := bcell hb s1
        replace t0 := bcell hb t0
        replace t1 := bcell hb t1
        replace HU := hide (bel_next HU.out hb)
        clear hb
        go_wp2_with fail
        refine Calls.mono (light4 qa qm ja ba jm bm _ true (decide_eq_true hlb) hja hjm) ?_
        rintro e u ⟨rfl, hb⟩
        replace s0 := bcell hb s0
        replace s1 := bcell hb s1
        replace t0 := bcell hb t0
        replace t1 := bcell hb t1
        replace HU := hide (bel_next HU.out hb)
        clear hb
        go_wp2_with fail
        refine Calls.mono (low4 pa pm na ca nm cm c _ false (decide_eq_false (by omega)) (HN.out.below HU.out)) ?_
        rintro e u ⟨rfl, hb⟩
        replace s0 := bcell hb s0
        replace s1 := bcell hb s1
        replace t0 := bcell hb t0
        replace t1 := bcell hb t1
        replace HU := hide (bel_next HU.out hb)
        clear hb
        go_wp2_with fail
        refine Calls.mono (awake4 _) ?_
        rintro e u ⟨rfl, hb⟩
        replace s0 := bcell hb s0
        replace s1 := bcell hb s1
        replace t0 := bcell hb t0
        replace t1 := bcell hb t1
        replace HU := hide (bel_next HU.out hb)
        clear hb
        go_wp2
        go_ret
        exact ⟨rfl, HU.out⟩
    · go_enter Try.func4, Try.ntmps4
      go_wp2_with fail
      refine Calls.mono (light4 pa pm na ca nm cm _ true (decide_eq_true hla) hna hnm) ?_
      rintro e u ⟨rfl, hb⟩
      replace s0 := bcell hb s0
      replace s1 := bcell hb s1
      replace t0 := bcell hb t0
      replace t1 := bcell hb t1
      replace HU := hide (bel_next HU.out hb)
      clear hb
      go_wp2_with fail
      refine Calls.mono (light4 qa qm ja ba jm bm _ false (decide_eq_false (by omega)) hja hjm) ?_
      rintro e u ⟨rfl, hb⟩
      replace s0 := bcell hb s0
      replace s1 := bcell hb s1
      replace t0 := bcell hb t0
      replace t1 := bcell hb t1
      replace HU := hide (bel_next HU.out hb)
      clear hb
      go_wp2_with fail
      refine Calls.mono (awake4 _) ?_
      rintro e u ⟨rfl, hb⟩
      replace s0 := bcell hb s0
      replace s1 := bcell hb s1
      replace t0 := bcell hb t0
      replace t1 := bcell hb t1
      replace HU := hide (bel_next HU.out hb)
      clear hb
      go_wp2
      go_ret
      exact ⟨rfl, HU.out⟩
  · go_enter Try.func4, Try.ntmps4
    go_wp2_with fail
    refine Calls.mono (light4 pa pm na ca nm cm _ false (decide_eq_false (by omega)) hna hnm) ?_
    rintro e u ⟨rfl, hb⟩
    replace s0 := bcell hb s0
    replace s1 := bcell hb s1
    replace t0 := bcell hb t0
    replace t1 := bcell hb t1
    replace HU := hide (bel_next HU.out hb)
    clear hb
    go_wp2_with fail
    refine Calls.mono (awake4 _) ?_
    rintro e u ⟨rfl, hb⟩
    replace s0 := bcell hb s0
    replace s1 := bcell hb s1
    replace t0 := bcell hb t0
    replace t1 := bcell hb t1
    replace HU := hide (bel_next HU.out hb)
    clear hb
    go_wp2
    go_ret
    exact ⟨rfl, HU.out⟩

/-! ### The row's step -/
set_option maxRecDepth 100000 in
theorem lifted (os : Os) (started : os.Started) (H : Type) (enc : TypeId × Value → H) :
    ReturnsInHanded {} Try.checked os 4 .any (Rows.dotsJoinSpec.pre6 enc Try.prog Try.f4 Rows.dotsJoinRow.domain false) (Rows.dotsJoinSpec.post enc Try.prog Try.f4 false true false false) := by
  refine returnsInHanded_of_change_sized (C := Try.checked) own started (by kernel_rfl) Try.func4
    (ChangeSpec.witness6 (enc := enc) (C := Try.checked) false ⟨#[], #[.agg #[.slice none 0 0, .slice none 0 0], .agg #[.slice none 0 0, .slice none 0 0]], []⟩ 8 (by kernel_rfl) (by kernel_rfl) (by kernel_rfl) (by kernel_rfl)) ?_
  intro W base args ds gs before hval0 hW hcnd hz0 _
  have hval : ∀ (j : Nat) t v, Try.f4.params[j]? = some t → args[j]? = some v → Value.okWide Try.prog W .any base t v := hval0
  have hz : (DataW.weightsEach Try.prog (Try.f4.params.toList ++ Rows.dotsJoinSpec.plain.varTypes Try.prog) (ds ++ gs)).all (· ≤ reachBytes) = true := hz0
  have hW' := hW
  obtain ⟨p, q, hA0, hV, rfl, hfz, hnd⟩ := hW
  have hA : DataW.TrodAll enc Try.prog W 0 (fun _ => true) true Try.f4.params.toList args.toList ds p := hA0
  rw [Try.params4] at hA hval hz
  obtain ⟨v0, vs0, d0, ds0, p0, q0, hargs, rfl, rfl, h0, r0⟩ := trodAll_cons hA
  obtain ⟨v1, vs1, d1, ds1, p1, q1, rfl, rfl, rfl, h1, r1⟩ := trodAll_cons r0
  obtain ⟨rfl, rfl, rfl⟩ := trodAll_nil r1
  obtain rfl : args = #[v0, v1] := by cases args; simp_all
  obtain ⟨rfl, rfl⟩ := trodVars_none hV
  have k0 := h0
  have lt0 : ∀ x ∈ p0, x.block < W.heap.size := by obtain ⟨m, hm⟩ := k0; exact DataW.trod_lt m _ _ _ hm
  have w0 : InS W v0 := in_seen (hval 0 26 v0 rfl rfl) h0 (fun n hn => by have := List.all_eq_true.1 hz n (DataW.weights_mem_each (j := 0) (t := 26) rfl rfl n hn); simpa using this)
  have k1 := h1
  have lt1 : ∀ x ∈ p1, x.block < W.heap.size := by obtain ⟨m, hm⟩ := k1; exact DataW.trod_lt m _ _ _ hm
  have w1 : InS W v1 := in_seen (hval 1 26 v1 rfl rfl) h1 (fun n hn => by have := List.all_eq_true.1 hz n (DataW.weights_mem_each (j := 1) (t := 26) rfl rfl n hn); simpa using this)
  clear hA0 hval0 hz0
  refine (walk v0 v1 W w0 w1).mono fun e W' ⟨he, bel⟩ => ?_
  subst he
  exact ⟨_, rfl, _, _, _, [], _, [], hW', trodAll_mk1 (shut_bool Try.underlying4 _), (trodAll_cons_mk (Below.trod laidOut (by kernel_rfl) (of_decide_eq_true (by kernel_rfl)) k0 bel lt0) (trodAll_cons_mk (Below.trod laidOut (by kernel_rfl) (of_decide_eq_true (by kernel_rfl)) k1 bel lt1) trodAll_mk0)), rfl, bel.frame _, fun h => by cases h⟩

theorem over : Rows.dotsJoinRow.holds Try.pinned (OpenSpec.ofChange Rows.dotsJoinSpec) :=
  OpenClaim.holds_of_wide 4 Try.f4 rfl rfl rfl rfl rfl rfl rfl ⟨rfl, rfl, rfl, rfl, rfl⟩ rfl rfl rfl rfl rfl (by kernel_rfl) Try.func4 (by kernel_rfl)
    (of_decide_eq_true (by kernel_rfl)) (by unfold Func.isWrapper; first | (rw [if_pos (by decide +kernel)]; kernel_rfl) | (rw [if_neg (by decide +kernel)]; exact ⟨rfl, rfl⟩))
    (fun os started H enc _ => lifted os started H enc)
end Go.Proofs.Ytccpbkemiilgcaa.dotsJoin
namespace Go.Proofs.Ytccpbkemiilgcaa
theorem dotsJoin_holds : Rows.DotsJoinSaid := dotsJoin.over
end Go.Proofs.Ytccpbkemiilgcaa
