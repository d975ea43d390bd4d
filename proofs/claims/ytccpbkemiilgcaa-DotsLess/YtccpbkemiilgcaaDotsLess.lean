/- DotsLess is true for every three dots: of two that are unlike just one is ahead; none is ahead of itself; what is ahead of what is ahead is ahead. Conditions: none but the form's own. -/
import Derived.Test.YtccpbkemiilgcaaRows
import Derived.WalkKit
import Derived.ProofKit
import Derived.OpenShut
import Derived.ShutString
import Derived.ChangeOld
import Derived.Below
import Derived.SizedLaws
import Derived.Test.YtccpbkemiilgcaaDLaw
namespace Go.Proofs.Ytccpbkemiilgcaa.dotsLess
open Go.ChangeShapes Go.WideShapes Go.ChangeAt Go.RowKit
set_option linter.unusedVariables false

theorem own : ownKnob Try.prog.godebug = none := by kernel_rfl
theorem laidOut : laidOutB Try.prog = true := by kernel_rfl

theorem neD (r s r' s' : Int) (b : Bool) (hb : b = decide (r = r' ∧ s = s')) (w : World) : (Op.equalIn 10000 28 (.agg #[.int .i64 r, .int .i64 s]) (.agg #[.int .i64 r', .int .i64 s'])).run Try.prog w = .ok b w := eqD r s r' s' b hb w
set_option maxHeartbeats 16000000 in
set_option maxRecDepth 100000 in
theorem walk (v0 : Value) (v1 : Value) (v2 : Value) (w : World) (w0 : InD w v0) (w1 : InD w v1) (w2 : InD w v2) :
    Calls Try.prog 6 #[v0, v1, v2] w fun e w' => e = .returned (.bool true) ∧ Below w.heap.size w w' := by
  obtain ⟨r, s, rfl⟩ := w0
  obtain ⟨p, q, rfl⟩ := w1
  obtain ⟨x, y, rfl⟩ := w2
  have a0 : (((w.alloc (bxD r s)).alloc (bxD p q)).alloc (bxD x y)).cell? ⟨w.heap.size, 0, none⟩ = some (.int .i64 r) := cell_old _ (cell_old _ (cell_new w _ _ _ rfl 0 _ rfl))
  have a1 : (((w.alloc (bxD r s)).alloc (bxD p q)).alloc (bxD x y)).cell? ⟨w.heap.size, 1, none⟩ = some (.int .i64 s) := cell_old _ (cell_old _ (cell_new w _ _ _ rfl 1 _ rfl))
  have b0 : (((w.alloc (bxD r s)).alloc (bxD p q)).alloc (bxD x y)).cell? ⟨w.heap.size + 1, 0, none⟩ = some (.int .i64 p) := cell_old _ (cell_new _ _ _ _ (by simp) 0 _ rfl)
  have b1 : (((w.alloc (bxD r s)).alloc (bxD p q)).alloc (bxD x y)).cell? ⟨w.heap.size + 1, 1, none⟩ = some (.int .i64 q) := cell_old _ (cell_new _ _ _ _ (by simp) 1 _ rfl)
  have d0 : (((w.alloc (bxD r s)).alloc (bxD p q)).alloc (bxD x y)).cell? ⟨w.heap.size + 1 + 1, 0, none⟩ = some (.int .i64 x) := cell_new _ _ _ _ (by simp) 0 _ rfl
  have d1 : (((w.alloc (bxD r s)).alloc (bxD p q)).alloc (bxD x y)).cell? ⟨w.heap.size + 1 + 1, 1, none⟩ = some (.int .i64 y) := cell_new _ _ _ _ (by simp) 1 _ rfl
  have HU := hide (bel3 w (bxD r s) (bxD p q) (bxD x y))
  have HAB := hide (fun W => Less_any (r, s) (p, q) W)
  have HBA := hide (fun W => Less_any (p, q) (r, s) W)
  have HAA := hide (fun W => Less_any (r, s) (r, s) W)
  have HBC := hide (fun W => Less_any (p, q) (x, y) W)
  have HAC := hide (fun W => Less_any (r, s) (x, y) W)
  have HRab := hide (fun W => LessR_any r s p q W)
  rw [lessD_irr] at HAA
  by_cases hne : (r, s) = (p, q)
  · rcases hab : lessD (r, s) (p, q) with _ | _
    · rw [hab] at HAB HRab
      have hq := fun w => eqD r s p q true (by symm; exact decide_eq_true ⟨congrArg Prod.fst hne, congrArg Prod.snd hne⟩) w
      go_enter Try.func6, Try.ntmps6
      go_wp2
      generalize ((w.alloc (bxD r s)).alloc (bxD p q)).alloc (bxD x y) = u at *
      refine wp_region_held_drew (S := fun W => Below u.heap.size u W) (by kernel_rfl) ((Below.refl _ u).drew) (fun hS0 => ?_)
      refine takeInH 0 7 ?v1 rfl rfl (by kernel_rfl) (by kernel_rfl) (by kernel_rfl) (fun _ _ _ h => h) (by kernel_rfl) hS0 ?hy1 ?_
      case hy1 => (intro W hW; have e0 := bcell hW a0; have e1 := bcell hW a1; have e2 := bcell hW b0; have e3 := bcell hW b1; have e4 := bcell hW d0; have e5 := bcell hW d1; clear hW; go_simp; try rfl)
      simp only [Act.put, List.setIfInBounds_toArray, List.set_cons_zero, List.set_cons_succ]
      refine takeInH 1 8 ?v2 rfl rfl (by kernel_rfl) (by kernel_rfl) (by kernel_rfl) (fun _ _ _ h => h) (by kernel_rfl) hS0 ?hy2 ?_
      case hy2 => (intro W hW; have e0 := bcell hW a0; have e1 := bcell hW a1; have e2 := bcell hW b0; have e3 := bcell hW b1; have e4 := bcell hW d0; have e5 := bcell hW d1; clear hW; go_simp; try rfl)
      simp only [Act.put, List.setIfInBounds_toArray, List.set_cons_zero, List.set_cons_succ]
      refine takeInH 3 10 ?v3 rfl rfl (by kernel_rfl) (by kernel_rfl) (by kernel_rfl) (fun _ _ _ h => h) (by kernel_rfl) hS0 ?hy3 ?_
      case hy3 => (intro W hW; have e0 := bcell hW a0; have e1 := bcell hW a1; have e2 := bcell hW b0; have e3 := bcell hW b1; have e4 := bcell hW d0; have e5 := bcell hW d1; clear hW; go_simp; try rfl)
      simp only [Act.put, List.setIfInBounds_toArray, List.set_cons_zero, List.set_cons_succ]
      refine takeInH 4 11 ?v4 rfl rfl (by kernel_rfl) (by kernel_rfl) (by kernel_rfl) (fun _ _ _ h => h) (by kernel_rfl) hS0 ?hy4 ?_
      case hy4 => (intro W hW; have e0 := bcell hW a0; have e1 := bcell hW a1; have e2 := bcell hW b0; have e3 := bcell hW b1; have e4 := bcell hW d0; have e5 := bcell hW d1; clear hW; go_simp; try rfl)
      simp only [Act.put, List.setIfInBounds_toArray, List.set_cons_zero, List.set_cons_succ]
      refine wpAnyH_ready (rs := [2]) (by kernel_rfl) (by simp) ?_
      refine AllReadyH.cons rfl (fun K hK => ?_) AllReadyH.nil
      go_simp
      refine (HAB.out _).mono ?_
      rintro e w' ⟨rfl, hg⟩
      have hb := hg.bel
      clear hg
      try go_wp2_with fail
      refine hK.out _ _ ?hs5 (fun hS1 => ?_)
      case hs5 => exact bel_next hS0 hb
      clear hK K hb
      try simp only [Act.put, List.setIfInBounds_toArray, List.set_cons_zero, List.set_cons_succ]
      refine wpAnyH_ready (rs := [5]) (by kernel_rfl) (by simp) ?_
      refine AllReadyH.cons rfl (fun K hK => ?_) AllReadyH.nil
      go_simp
      refine (HRab.out _).mono ?_
      rintro e w' ⟨rfl, hg⟩
      have hb := hg.bel
      clear hg
      try go_wp2_with fail
      refine hK.out _ _ ?hs6 (fun hS2 => ?_)
      case hs6 => exact bel_next hS1 hb
      clear hK K hb
      try simp only [Act.put, List.setIfInBounds_toArray, List.set_cons_zero, List.set_cons_succ]
      refine takeInH 6 13 ?v7 rfl rfl (by kernel_rfl) (by kernel_rfl) (by kernel_rfl) (fun _ _ _ h => h) (by kernel_rfl) hS2 ?hy7 ?_
      case hy7 => (intro W hW; clear hW; go_simp; try rfl)
      simp only [Act.put, List.setIfInBounds_toArray, List.set_cons_zero, List.set_cons_succ]
      refine takeInH 7 14 ?v8 rfl rfl (by kernel_rfl) (by kernel_rfl) (by kernel_rfl) (fun _ _ _ h => h) (by kernel_rfl) hS2 ?hy8 ?_
      case hy8 => (intro W hW; clear hW; go_simp; try rfl)
      simp only [Act.put, List.setIfInBounds_toArray, List.set_cons_zero, List.set_cons_succ]
      refine takeInH 8 15 ?v9 rfl rfl (by kernel_rfl) (by kernel_rfl) (by kernel_rfl) (fun _ _ _ h => h) (by kernel_rfl) hS2 ?hy9 ?_
      case hy9 => (intro W hW; have e0 := bcell hW a0; have e1 := bcell hW a1; have e2 := bcell hW b0; have e3 := bcell hW b1; have e4 := bcell hW d0; have e5 := bcell hW d1; clear hW; go_simp; try rfl)
      simp only [Act.put, List.setIfInBounds_toArray, List.set_cons_zero, List.set_cons_succ]
      refine takeInH 9 16 ?v10 rfl rfl (by kernel_rfl) (by kernel_rfl) (by kernel_rfl) (fun _ _ _ h => h) (by kernel_rfl) hS2 ?hy10 ?_
      case hy10 => (intro W hW; have e0 := bcell hW a0; have e1 := bcell hW a1; have e2 := bcell hW b0; have e3 := bcell hW b1; have e4 := bcell hW d0; have e5 := bcell hW d1; clear hW; go_simp; try rfl)
      simp only [Act.put, List.setIfInBounds_toArray, List.set_cons_zero, List.set_cons_succ]
      refine takeInH 10 17 ?v11 rfl rfl (by kernel_rfl) (by kernel_rfl) (by kernel_rfl) (fun _ _ _ h => h) (by kernel_rfl) hS2 ?hy11 ?_
      case hy11 => (intro W hW; clear hW; go_simp; try rfl)
      simp only [Act.put, List.setIfInBounds_toArray, List.set_cons_zero, List.set_cons_succ]
      refine takeInH 11 18 ?v12 rfl rfl (by kernel_rfl) (by kernel_rfl) (by kernel_rfl) (fun _ _ _ h => h) (by kernel_rfl) hS2 ?hy12 ?_
      case hy12 => (intro W hW; clear hW; go_simp; try rfl)
      simp only [Act.put, List.setIfInBounds_toArray, List.set_cons_zero, List.set_cons_succ]
      refine takeNoH 12 19 rfl rfl (by kernel_rfl) (by kernel_rfl) (by kernel_rfl) (fun _ _ _ h => h) (by kernel_rfl) hS2 ?_
      simp only [Act.put, List.setIfInBounds_toArray, List.set_cons_zero, List.set_cons_succ]
      refine takeNoH 13 20 rfl rfl (by kernel_rfl) (by kernel_rfl) (by kernel_rfl) (fun _ _ _ h => h) (by kernel_rfl) hS2 ?_
      simp only [Act.put, List.setIfInBounds_toArray, List.set_cons_zero, List.set_cons_succ]
      refine takeNoH 14 21 rfl rfl (by kernel_rfl) (by kernel_rfl) (by kernel_rfl) (fun _ _ _ h => h) (by kernel_rfl) hS2 ?_
      simp only [Act.put, List.setIfInBounds_toArray, List.set_cons_zero, List.set_cons_succ]
      refine takeNoH 15 22 rfl rfl (by kernel_rfl) (by kernel_rfl) (by kernel_rfl) (fun _ _ _ h => h) (by kernel_rfl) hS2 ?_
      simp only [Act.put, List.setIfInBounds_toArray, List.set_cons_zero, List.set_cons_succ]
      refine takeNoH 16 23 rfl rfl (by kernel_rfl) (by kernel_rfl) (by kernel_rfl) (fun _ _ _ h => h) (by kernel_rfl) hS2 ?_
      simp only [Act.put, List.setIfInBounds_toArray, List.set_cons_zero, List.set_cons_succ]
      refine takeNoH 17 24 rfl rfl (by kernel_rfl) (by kernel_rfl) (by kernel_rfl) (fun _ _ _ h => h) (by kernel_rfl) hS2 ?_
      simp only [Act.put, List.setIfInBounds_toArray, List.set_cons_zero, List.set_cons_succ]
      refine takeNoH 18 25 rfl rfl (by kernel_rfl) (by kernel_rfl) (by kernel_rfl) (fun _ _ _ h => h) (by kernel_rfl) hS2 ?_
      simp only [Act.put, List.setIfInBounds_toArray, List.set_cons_zero, List.set_cons_succ]
      refine takeInH 19 26 ?v13 rfl rfl (by kernel_rfl) (by kernel_rfl) (by kernel_rfl) (fun _ _ _ h => h) (by kernel_rfl) hS2 ?hy13 ?_
      case hy13 => (intro W hW; clear hW; go_simp; try rfl)
      simp only [Act.put, List.setIfInBounds_toArray, List.set_cons_zero, List.set_cons_succ]
      refine takeInH 20 27 ?v14 rfl rfl (by kernel_rfl) (by kernel_rfl) (by kernel_rfl) (fun _ _ _ h => h) (by kernel_rfl) hS2 ?hy14 ?_
      case hy14 => (intro W hW; clear hW; go_simp; try rfl)
      simp only [Act.put, List.setIfInBounds_toArray, List.set_cons_zero, List.set_cons_succ]
      refine takeInH 21 28 ?v15 rfl rfl (by kernel_rfl) (by kernel_rfl) (by kernel_rfl) (fun _ _ _ h => h) (by kernel_rfl) hS2 ?hy15 ?_
      case hy15 => (intro W hW; clear hW; go_simp; try rfl)
      simp only [Act.put, List.setIfInBounds_toArray, List.set_cons_zero, List.set_cons_succ]
      refine takeInH 22 29 ?v16 rfl rfl (by kernel_rfl) (by kernel_rfl) (by kernel_rfl) (fun _ _ _ h => h) (by kernel_rfl) hS2 ?hy16 ?_
      case hy16 => (intro W hW; have e0 := bcell hW a0; have e1 := bcell hW a1; have e2 := bcell hW b0; have e3 := bcell hW b1; have e4 := bcell hW d0; have e5 := bcell hW d1; clear hW; go_simp; try rfl)
      simp only [Act.put, List.setIfInBounds_toArray, List.set_cons_zero, List.set_cons_succ]
      refine takeInH 23 30 ?v17 rfl rfl (by kernel_rfl) (by kernel_rfl) (by kernel_rfl) (fun _ _ _ h => h) (by kernel_rfl) hS2 ?hy17 ?_
      case hy17 => (intro W hW; have e0 := bcell hW a0; have e1 := bcell hW a1; have e2 := bcell hW b0; have e3 := bcell hW b1; have e4 := bcell hW d0; have e5 := bcell hW d1; clear hW; go_simp; try rfl)
      simp only [Act.put, List.setIfInBounds_toArray, List.set_cons_zero, List.set_cons_succ]
      refine wpAnyH_ready (rs := [24]) (by kernel_rfl) (by simp) ?_
      refine AllReadyH.cons rfl (fun K hK => ?_) AllReadyH.nil
      go_simp
      refine (HAA.out _).mono ?_
      rintro e w' ⟨rfl, hg⟩
      have hb := hg.bel
      clear hg
      try go_wp2_with fail
      refine hK.out _ _ ?hs18 (fun hS3 => ?_)
      case hs18 => exact bel_next hS2 hb
      clear hK K hb
      try simp only [Act.put, List.setIfInBounds_toArray, List.set_cons_zero, List.set_cons_succ]
      refine takeInH 25 32 ?v19 rfl rfl (by kernel_rfl) (by kernel_rfl) (by kernel_rfl) (fun _ _ _ h => h) (by kernel_rfl) hS3 ?hy19 ?_
      case hy19 => (intro W hW; clear hW; go_simp; try rfl)
      simp only [Act.put, List.setIfInBounds_toArray, List.set_cons_zero, List.set_cons_succ]
      refine wpAnyH_done (by kernel_rfl) ?_ _
      replace a0 := bcell hS3 a0
      replace a1 := bcell hS3 a1
      replace b0 := bcell hS3 b0
      replace b1 := bcell hS3 b1
      replace d0 := bcell hS3 d0
      replace d1 := bcell hS3 d1
      replace HU := hide (bel_next HU.out hS3)
      clear hS0 hS1 hS2 hS3 hq
      go_wp2_with fail
      refine (HAB.out _).mono ?_
      rintro e u2 ⟨rfl, hb⟩
      replace hb := hb.bel
      replace a0 := bcell hb a0
      replace a1 := bcell hb a1
      replace b0 := bcell hb b0
      replace b1 := bcell hb b1
      replace d0 := bcell hb d0
      replace d1 := bcell hb d1
      replace HU := hide (bel_next HU.out hb)
      clear hb
      go_wp2_with fail
      refine (awake4 _).mono ?_
      rintro e u2 ⟨rfl, hb⟩
      replace a0 := bcell hb a0
      replace a1 := bcell hb a1
      replace b0 := bcell hb b0
      replace b1 := bcell hb b1
      replace d0 := bcell hb d0
      replace d1 := bcell hb d1
      replace HU := hide (bel_next HU.out hb)
      clear hb
      go_wp2
      go_ret
      exact ⟨rfl, HU.out⟩
    · exact absurd hne (lessD_ne hab)
  · rcases hab : lessD (r, s) (p, q) with _ | _
    · rw [hab] at HAB HRab
      have hba : lessD (p, q) (r, s) = true := by
        rcases lessD_tri (r, s) (p, q) with z | z | z
        · rw [hab] at z; cases z
        · exact absurd z hne
        · exact z
      rw [hba] at HBA
      have hq := fun w => eqD r s p q false (by symm; exact decide_eq_false (fun z => hne (Prod.ext z.1 z.2))) w
      go_enter Try.func6, Try.ntmps6
      go_wp2
      generalize ((w.alloc (bxD r s)).alloc (bxD p q)).alloc (bxD x y) = u at *
      refine wp_region_held_drew (S := fun W => Below u.heap.size u W) (by kernel_rfl) ((Below.refl _ u).drew) (fun hS0 => ?_)
      refine takeInH 0 7 ?v20 rfl rfl (by kernel_rfl) (by kernel_rfl) (by kernel_rfl) (fun _ _ _ h => h) (by kernel_rfl) hS0 ?hy20 ?_
      case hy20 => (intro W hW; have e0 := bcell hW a0; have e1 := bcell hW a1; have e2 := bcell hW b0; have e3 := bcell hW b1; have e4 := bcell hW d0; have e5 := bcell hW d1; clear hW; go_simp; try rfl)
      simp only [Act.put, List.setIfInBounds_toArray, List.set_cons_zero, List.set_cons_succ]
      refine takeInH 1 8 ?v21 rfl rfl (by kernel_rfl) (by kernel_rfl) (by kernel_rfl) (fun _ _ _ h => h) (by kernel_rfl) hS0 ?hy21 ?_
      case hy21 => (intro W hW; have e0 := bcell hW a0; have e1 := bcell hW a1; have e2 := bcell hW b0; have e3 := bcell hW b1; have e4 := bcell hW d0; have e5 := bcell hW d1; clear hW; go_simp; try rfl)
      simp only [Act.put, List.setIfInBounds_toArray, List.set_cons_zero, List.set_cons_succ]
      refine takeInH 3 10 ?v22 rfl rfl (by kernel_rfl) (by kernel_rfl) (by kernel_rfl) (fun _ _ _ h => h) (by kernel_rfl) hS0 ?hy22 ?_
      case hy22 => (intro W hW; have e0 := bcell hW a0; have e1 := bcell hW a1; have e2 := bcell hW b0; have e3 := bcell hW b1; have e4 := bcell hW d0; have e5 := bcell hW d1; clear hW; go_simp; try rfl)
      simp only [Act.put, List.setIfInBounds_toArray, List.set_cons_zero, List.set_cons_succ]
      refine takeInH 4 11 ?v23 rfl rfl (by kernel_rfl) (by kernel_rfl) (by kernel_rfl) (fun _ _ _ h => h) (by kernel_rfl) hS0 ?hy23 ?_
      case hy23 => (intro W hW; have e0 := bcell hW a0; have e1 := bcell hW a1; have e2 := bcell hW b0; have e3 := bcell hW b1; have e4 := bcell hW d0; have e5 := bcell hW d1; clear hW; go_simp; try rfl)
      simp only [Act.put, List.setIfInBounds_toArray, List.set_cons_zero, List.set_cons_succ]
      refine wpAnyH_ready (rs := [2]) (by kernel_rfl) (by simp) ?_
      refine AllReadyH.cons rfl (fun K hK => ?_) AllReadyH.nil
      go_simp
      refine (HAB.out _).mono ?_
      rintro e w' ⟨rfl, hg⟩
      have hb := hg.bel
      clear hg
      try go_wp2_with fail
      refine hK.out _ _ ?hs24 (fun hS1 => ?_)
      case hs24 => exact bel_next hS0 hb
      clear hK K hb
      try simp only [Act.put, List.setIfInBounds_toArray, List.set_cons_zero, List.set_cons_succ]
      refine wpAnyH_ready (rs := [5]) (by kernel_rfl) (by simp) ?_
      refine AllReadyH.cons rfl (fun K hK => ?_) AllReadyH.nil
      go_simp
      refine (HRab.out _).mono ?_
      rintro e w' ⟨rfl, hg⟩
      have hb := hg.bel
      clear hg
      try go_wp2_with fail
      refine hK.out _ _ ?hs25 (fun hS2 => ?_)
      case hs25 => exact bel_next hS1 hb
      clear hK K hb
      try simp only [Act.put, List.setIfInBounds_toArray, List.set_cons_zero, List.set_cons_succ]
      refine takeInH 6 13 ?v26 rfl rfl (by kernel_rfl) (by kernel_rfl) (by kernel_rfl) (fun _ _ _ h => h) (by kernel_rfl) hS2 ?hy26 ?_
      case hy26 => (intro W hW; clear hW; go_simp; try rfl)
      simp only [Act.put, List.setIfInBounds_toArray, List.set_cons_zero, List.set_cons_succ]
      refine takeInH 7 14 ?v27 rfl rfl (by kernel_rfl) (by kernel_rfl) (by kernel_rfl) (fun _ _ _ h => h) (by kernel_rfl) hS2 ?hy27 ?_
      case hy27 => (intro W hW; clear hW; go_simp; try rfl)
      simp only [Act.put, List.setIfInBounds_toArray, List.set_cons_zero, List.set_cons_succ]
      refine takeInH 8 15 ?v28 rfl rfl (by kernel_rfl) (by kernel_rfl) (by kernel_rfl) (fun _ _ _ h => h) (by kernel_rfl) hS2 ?hy28 ?_
      case hy28 => (intro W hW; have e0 := bcell hW a0; have e1 := bcell hW a1; have e2 := bcell hW b0; have e3 := bcell hW b1; have e4 := bcell hW d0; have e5 := bcell hW d1; clear hW; go_simp; try rfl)
      simp only [Act.put, List.setIfInBounds_toArray, List.set_cons_zero, List.set_cons_succ]
      refine takeInH 9 16 ?v29 rfl rfl (by kernel_rfl) (by kernel_rfl) (by kernel_rfl) (fun _ _ _ h => h) (by kernel_rfl) hS2 ?hy29 ?_
      case hy29 => (intro W hW; have e0 := bcell hW a0; have e1 := bcell hW a1; have e2 := bcell hW b0; have e3 := bcell hW b1; have e4 := bcell hW d0; have e5 := bcell hW d1; clear hW; go_simp; try rfl)
      simp only [Act.put, List.setIfInBounds_toArray, List.set_cons_zero, List.set_cons_succ]
      refine takeInH 10 17 ?v30 rfl rfl (by kernel_rfl) (by kernel_rfl) (by kernel_rfl) (fun _ _ _ h => h) (by kernel_rfl) hS2 ?hy30 ?_
      case hy30 => (intro W hW; clear hW; go_simp; try rfl)
      simp only [Act.put, List.setIfInBounds_toArray, List.set_cons_zero, List.set_cons_succ]
      refine takeInH 11 18 ?v31 rfl rfl (by kernel_rfl) (by kernel_rfl) (by kernel_rfl) (fun _ _ _ h => h) (by kernel_rfl) hS2 ?hy31 ?_
      case hy31 => (intro W hW; clear hW; go_simp; try rfl)
      simp only [Act.put, List.setIfInBounds_toArray, List.set_cons_zero, List.set_cons_succ]
      refine takeInH 12 19 ?v32 rfl rfl (by kernel_rfl) (by kernel_rfl) (by kernel_rfl) (fun _ _ _ h => h) (by kernel_rfl) hS2 ?hy32 ?_
      case hy32 => (intro W hW; have e0 := bcell hW a0; have e1 := bcell hW a1; have e2 := bcell hW b0; have e3 := bcell hW b1; have e4 := bcell hW d0; have e5 := bcell hW d1; clear hW; go_simp; try rfl)
      simp only [Act.put, List.setIfInBounds_toArray, List.set_cons_zero, List.set_cons_succ]
      refine takeInH 13 20 ?v33 rfl rfl (by kernel_rfl) (by kernel_rfl) (by kernel_rfl) (fun _ _ _ h => h) (by kernel_rfl) hS2 ?hy33 ?_
      case hy33 => (intro W hW; have e0 := bcell hW a0; have e1 := bcell hW a1; have e2 := bcell hW b0; have e3 := bcell hW b1; have e4 := bcell hW d0; have e5 := bcell hW d1; clear hW; go_simp; try rfl)
      simp only [Act.put, List.setIfInBounds_toArray, List.set_cons_zero, List.set_cons_succ]
      refine takeInH 15 22 ?v34 rfl rfl (by kernel_rfl) (by kernel_rfl) (by kernel_rfl) (fun _ _ _ h => h) (by kernel_rfl) hS2 ?hy34 ?_
      case hy34 => (intro W hW; have e0 := bcell hW a0; have e1 := bcell hW a1; have e2 := bcell hW b0; have e3 := bcell hW b1; have e4 := bcell hW d0; have e5 := bcell hW d1; clear hW; go_simp; try rfl)
      simp only [Act.put, List.setIfInBounds_toArray, List.set_cons_zero, List.set_cons_succ]
      refine takeInH 16 23 ?v35 rfl rfl (by kernel_rfl) (by kernel_rfl) (by kernel_rfl) (fun _ _ _ h => h) (by kernel_rfl) hS2 ?hy35 ?_
      case hy35 => (intro W hW; have e0 := bcell hW a0; have e1 := bcell hW a1; have e2 := bcell hW b0; have e3 := bcell hW b1; have e4 := bcell hW d0; have e5 := bcell hW d1; clear hW; go_simp; try rfl)
      simp only [Act.put, List.setIfInBounds_toArray, List.set_cons_zero, List.set_cons_succ]
      refine wpAnyH_ready (rs := [14]) (by kernel_rfl) (by simp) ?_
      refine AllReadyH.cons rfl (fun K hK => ?_) AllReadyH.nil
      go_simp
      refine (HAB.out _).mono ?_
      rintro e w' ⟨rfl, hg⟩
      have hb := hg.bel
      clear hg
      try go_wp2_with fail
      refine hK.out _ _ ?hs36 (fun hS3 => ?_)
      case hs36 => exact bel_next hS2 hb
      clear hK K hb
      try simp only [Act.put, List.setIfInBounds_toArray, List.set_cons_zero, List.set_cons_succ]
      refine wpAnyH_ready (rs := [17]) (by kernel_rfl) (by simp) ?_
      refine AllReadyH.cons rfl (fun K hK => ?_) AllReadyH.nil
      go_simp
      refine (HBA.out _).mono ?_
      rintro e w' ⟨rfl, hg⟩
      have hb := hg.bel
      clear hg
      try go_wp2_with fail
      refine hK.out _ _ ?hs37 (fun hS4 => ?_)
      case hs37 => exact bel_next hS3 hb
      clear hK K hb
      try simp only [Act.put, List.setIfInBounds_toArray, List.set_cons_zero, List.set_cons_succ]
      refine takeInH 18 25 ?v38 rfl rfl (by kernel_rfl) (by kernel_rfl) (by kernel_rfl) (fun _ _ _ h => h) (by kernel_rfl) hS4 ?hy38 ?_
      case hy38 => (intro W hW; clear hW; go_simp; try rfl)
      simp only [Act.put, List.setIfInBounds_toArray, List.set_cons_zero, List.set_cons_succ]
      refine takeInH 19 26 ?v39 rfl rfl (by kernel_rfl) (by kernel_rfl) (by kernel_rfl) (fun _ _ _ h => h) (by kernel_rfl) hS4 ?hy39 ?_
      case hy39 => (intro W hW; clear hW; go_simp; try rfl)
      simp only [Act.put, List.setIfInBounds_toArray, List.set_cons_zero, List.set_cons_succ]
      refine takeInH 20 27 ?v40 rfl rfl (by kernel_rfl) (by kernel_rfl) (by kernel_rfl) (fun _ _ _ h => h) (by kernel_rfl) hS4 ?hy40 ?_
      case hy40 => (intro W hW; clear hW; go_simp; try rfl)
      simp only [Act.put, List.setIfInBounds_toArray, List.set_cons_zero, List.set_cons_succ]
      refine takeInH 21 28 ?v41 rfl rfl (by kernel_rfl) (by kernel_rfl) (by kernel_rfl) (fun _ _ _ h => h) (by kernel_rfl) hS4 ?hy41 ?_
      case hy41 => (intro W hW; clear hW; go_simp; try rfl)
      simp only [Act.put, List.setIfInBounds_toArray, List.set_cons_zero, List.set_cons_succ]
      refine takeInH 22 29 ?v42 rfl rfl (by kernel_rfl) (by kernel_rfl) (by kernel_rfl) (fun _ _ _ h => h) (by kernel_rfl) hS4 ?hy42 ?_
      case hy42 => (intro W hW; have e0 := bcell hW a0; have e1 := bcell hW a1; have e2 := bcell hW b0; have e3 := bcell hW b1; have e4 := bcell hW d0; have e5 := bcell hW d1; clear hW; go_simp; try rfl)
      simp only [Act.put, List.setIfInBounds_toArray, List.set_cons_zero, List.set_cons_succ]
      refine takeInH 23 30 ?v43 rfl rfl (by kernel_rfl) (by kernel_rfl) (by kernel_rfl) (fun _ _ _ h => h) (by kernel_rfl) hS4 ?hy43 ?_
      case hy43 => (intro W hW; have e0 := bcell hW a0; have e1 := bcell hW a1; have e2 := bcell hW b0; have e3 := bcell hW b1; have e4 := bcell hW d0; have e5 := bcell hW d1; clear hW; go_simp; try rfl)
      simp only [Act.put, List.setIfInBounds_toArray, List.set_cons_zero, List.set_cons_succ]
      refine wpAnyH_ready (rs := [24]) (by kernel_rfl) (by simp) ?_
      refine AllReadyH.cons rfl (fun K hK => ?_) AllReadyH.nil
      go_simp
      refine (HAA.out _).mono ?_
      rintro e w' ⟨rfl, hg⟩
      have hb := hg.bel
      clear hg
      try go_wp2_with fail
      refine hK.out _ _ ?hs44 (fun hS5 => ?_)
      case hs44 => exact bel_next hS4 hb
      clear hK K hb
      try simp only [Act.put, List.setIfInBounds_toArray, List.set_cons_zero, List.set_cons_succ]
      refine takeInH 25 32 ?v45 rfl rfl (by kernel_rfl) (by kernel_rfl) (by kernel_rfl) (fun _ _ _ h => h) (by kernel_rfl) hS5 ?hy45 ?_
      case hy45 => (intro W hW; clear hW; go_simp; try rfl)
      simp only [Act.put, List.setIfInBounds_toArray, List.set_cons_zero, List.set_cons_succ]
      refine wpAnyH_done (by kernel_rfl) ?_ _
      replace a0 := bcell hS5 a0
      replace a1 := bcell hS5 a1
      replace b0 := bcell hS5 b0
      replace b1 := bcell hS5 b1
      replace d0 := bcell hS5 d0
      replace d1 := bcell hS5 d1
      replace HU := hide (bel_next HU.out hS5)
      clear hS0 hS1 hS2 hS3 hS4 hS5 hq
      go_wp2_with fail
      refine (HAB.out _).mono ?_
      rintro e u2 ⟨rfl, hb⟩
      replace hb := hb.bel
      replace a0 := bcell hb a0
      replace a1 := bcell hb a1
      replace b0 := bcell hb b0
      replace b1 := bcell hb b1
      replace d0 := bcell hb d0
      replace d1 := bcell hb d1
      replace HU := hide (bel_next HU.out hb)
      clear hb
      go_wp2_with fail
      refine (awake4 _).mono ?_
      rintro e u2 ⟨rfl, hb⟩
      replace a0 := bcell hb a0
      replace a1 := bcell hb a1
      replace b0 := bcell hb b0
      replace b1 := bcell hb b1
      replace d0 := bcell hb d0
      replace d1 := bcell hb d1
      replace HU := hide (bel_next HU.out hb)
      clear hb
      go_wp2
      go_ret
      exact ⟨rfl, HU.out⟩
    · rcases hbc : lessD (p, q) (x, y) with _ | _
      · rw [hab] at HAB HRab
        have hba : lessD (p, q) (r, s) = false := by
          exact lessD_asym hab
        rw [hba] at HBA
        have hq := fun w => eqD r s p q false (by symm; exact decide_eq_false (fun z => hne (Prod.ext z.1 z.2))) w
        rw [hbc] at HBC
        go_enter Try.func6, Try.ntmps6
        go_wp2
        generalize ((w.alloc (bxD r s)).alloc (bxD p q)).alloc (bxD x y) = u at *
        refine wp_region_held_drew (S := fun W => Below u.heap.size u W) (by kernel_rfl) ((Below.refl _ u).drew) (fun hS0 => ?_)
        refine takeInH 0 7 ?v46 rfl rfl (by kernel_rfl) (by kernel_rfl) (by kernel_rfl) (fun _ _ _ h => h) (by kernel_rfl) hS0 ?hy46 ?_
        case hy46 => (intro W hW; have e0 := bcell hW a0; have e1 := bcell hW a1; have e2 := bcell hW b0; have e3 := bcell hW b1; have e4 := bcell hW d0; have e5 := bcell hW d1; clear hW; go_simp; try rfl)
        simp only [Act.put, List.setIfInBounds_toArray, List.set_cons_zero, List.set_cons_succ]
        refine takeInH 1 8 ?v47 rfl rfl (by kernel_rfl) (by kernel_rfl) (by kernel_rfl) (fun _ _ _ h => h) (by kernel_rfl) hS0 ?hy47 ?_
        case hy47 => (intro W hW; have e0 := bcell hW a0; have e1 := bcell hW a1; have e2 := bcell hW b0; have e3 := bcell hW b1; have e4 := bcell hW d0; have e5 := bcell hW d1; clear hW; go_simp; try rfl)
        simp only [Act.put, List.setIfInBounds_toArray, List.set_cons_zero, List.set_cons_succ]
        refine takeInH 3 10 ?v48 rfl rfl (by kernel_rfl) (by kernel_rfl) (by kernel_rfl) (fun _ _ _ h => h) (by kernel_rfl) hS0 ?hy48 ?_
        case hy48 => (intro W hW; have e0 := bcell hW a0; have e1 := bcell hW a1; have e2 := bcell hW b0; have e3 := bcell hW b1; have e4 := bcell hW d0; have e5 := bcell hW d1; clear hW; go_simp; try rfl)
        simp only [Act.put, List.setIfInBounds_toArray, List.set_cons_zero, List.set_cons_succ]
        refine takeInH 4 11 ?v49 rfl rfl (by kernel_rfl) (by kernel_rfl) (by kernel_rfl) (fun _ _ _ h => h) (by kernel_rfl) hS0 ?hy49 ?_
        case hy49 => (intro W hW; have e0 := bcell hW a0; have e1 := bcell hW a1; have e2 := bcell hW b0; have e3 := bcell hW b1; have e4 := bcell hW d0; have e5 := bcell hW d1; clear hW; go_simp; try rfl)
        simp only [Act.put, List.setIfInBounds_toArray, List.set_cons_zero, List.set_cons_succ]
        refine wpAnyH_ready (rs := [2]) (by kernel_rfl) (by simp) ?_
        refine AllReadyH.cons rfl (fun K hK => ?_) AllReadyH.nil
        go_simp
        refine (HAB.out _).mono ?_
        rintro e w' ⟨rfl, hg⟩
        have hb := hg.bel
        clear hg
        try go_wp2_with fail
        refine hK.out _ _ ?hs50 (fun hS1 => ?_)
        case hs50 => exact bel_next hS0 hb
        clear hK K hb
        try simp only [Act.put, List.setIfInBounds_toArray, List.set_cons_zero, List.set_cons_succ]
        refine wpAnyH_ready (rs := [5]) (by kernel_rfl) (by simp) ?_
        refine AllReadyH.cons rfl (fun K hK => ?_) AllReadyH.nil
        go_simp
        refine (HRab.out _).mono ?_
        rintro e w' ⟨rfl, hg⟩
        have hb := hg.bel
        clear hg
        try go_wp2_with fail
        refine hK.out _ _ ?hs51 (fun hS2 => ?_)
        case hs51 => exact bel_next hS1 hb
        clear hK K hb
        try simp only [Act.put, List.setIfInBounds_toArray, List.set_cons_zero, List.set_cons_succ]
        refine takeInH 6 13 ?v52 rfl rfl (by kernel_rfl) (by kernel_rfl) (by kernel_rfl) (fun _ _ _ h => h) (by kernel_rfl) hS2 ?hy52 ?_
        case hy52 => (intro W hW; clear hW; go_simp; try rfl)
        simp only [Act.put, List.setIfInBounds_toArray, List.set_cons_zero, List.set_cons_succ]
        refine takeInH 7 14 ?v53 rfl rfl (by kernel_rfl) (by kernel_rfl) (by kernel_rfl) (fun _ _ _ h => h) (by kernel_rfl) hS2 ?hy53 ?_
        case hy53 => (intro W hW; clear hW; go_simp; try rfl)
        simp only [Act.put, List.setIfInBounds_toArray, List.set_cons_zero, List.set_cons_succ]
        refine takeInH 8 15 ?v54 rfl rfl (by kernel_rfl) (by kernel_rfl) (by kernel_rfl) (fun _ _ _ h => h) (by kernel_rfl) hS2 ?hy54 ?_
        case hy54 => (intro W hW; have e0 := bcell hW a0; have e1 := bcell hW a1; have e2 := bcell hW b0; have e3 := bcell hW b1; have e4 := bcell hW d0; have e5 := bcell hW d1; clear hW; go_simp; try rfl)
        simp only [Act.put, List.setIfInBounds_toArray, List.set_cons_zero, List.set_cons_succ]
        refine takeInH 9 16 ?v55 rfl rfl (by kernel_rfl) (by kernel_rfl) (by kernel_rfl) (fun _ _ _ h => h) (by kernel_rfl) hS2 ?hy55 ?_
        case hy55 => (intro W hW; have e0 := bcell hW a0; have e1 := bcell hW a1; have e2 := bcell hW b0; have e3 := bcell hW b1; have e4 := bcell hW d0; have e5 := bcell hW d1; clear hW; go_simp; try rfl)
        simp only [Act.put, List.setIfInBounds_toArray, List.set_cons_zero, List.set_cons_succ]
        refine takeInH 10 17 ?v56 rfl rfl (by kernel_rfl) (by kernel_rfl) (by kernel_rfl) (fun _ _ _ h => h) (by kernel_rfl) hS2 ?hy56 ?_
        case hy56 => (intro W hW; clear hW; go_simp; try rfl)
        simp only [Act.put, List.setIfInBounds_toArray, List.set_cons_zero, List.set_cons_succ]
        refine takeInH 11 18 ?v57 rfl rfl (by kernel_rfl) (by kernel_rfl) (by kernel_rfl) (fun _ _ _ h => h) (by kernel_rfl) hS2 ?hy57 ?_
        case hy57 => (intro W hW; clear hW; go_simp; try rfl)
        simp only [Act.put, List.setIfInBounds_toArray, List.set_cons_zero, List.set_cons_succ]
        refine takeInH 12 19 ?v58 rfl rfl (by kernel_rfl) (by kernel_rfl) (by kernel_rfl) (fun _ _ _ h => h) (by kernel_rfl) hS2 ?hy58 ?_
        case hy58 => (intro W hW; have e0 := bcell hW a0; have e1 := bcell hW a1; have e2 := bcell hW b0; have e3 := bcell hW b1; have e4 := bcell hW d0; have e5 := bcell hW d1; clear hW; go_simp; try rfl)
        simp only [Act.put, List.setIfInBounds_toArray, List.set_cons_zero, List.set_cons_succ]
        refine takeInH 13 20 ?v59 rfl rfl (by kernel_rfl) (by kernel_rfl) (by kernel_rfl) (fun _ _ _ h => h) (by kernel_rfl) hS2 ?hy59 ?_
        case hy59 => (intro W hW; have e0 := bcell hW a0; have e1 := bcell hW a1; have e2 := bcell hW b0; have e3 := bcell hW b1; have e4 := bcell hW d0; have e5 := bcell hW d1; clear hW; go_simp; try rfl)
        simp only [Act.put, List.setIfInBounds_toArray, List.set_cons_zero, List.set_cons_succ]
        refine takeInH 15 22 ?v60 rfl rfl (by kernel_rfl) (by kernel_rfl) (by kernel_rfl) (fun _ _ _ h => h) (by kernel_rfl) hS2 ?hy60 ?_
        case hy60 => (intro W hW; have e0 := bcell hW a0; have e1 := bcell hW a1; have e2 := bcell hW b0; have e3 := bcell hW b1; have e4 := bcell hW d0; have e5 := bcell hW d1; clear hW; go_simp; try rfl)
        simp only [Act.put, List.setIfInBounds_toArray, List.set_cons_zero, List.set_cons_succ]
        refine takeInH 16 23 ?v61 rfl rfl (by kernel_rfl) (by kernel_rfl) (by kernel_rfl) (fun _ _ _ h => h) (by kernel_rfl) hS2 ?hy61 ?_
        case hy61 => (intro W hW; have e0 := bcell hW a0; have e1 := bcell hW a1; have e2 := bcell hW b0; have e3 := bcell hW b1; have e4 := bcell hW d0; have e5 := bcell hW d1; clear hW; go_simp; try rfl)
        simp only [Act.put, List.setIfInBounds_toArray, List.set_cons_zero, List.set_cons_succ]
        refine wpAnyH_ready (rs := [14]) (by kernel_rfl) (by simp) ?_
        refine AllReadyH.cons rfl (fun K hK => ?_) AllReadyH.nil
        go_simp
        refine (HAB.out _).mono ?_
        rintro e w' ⟨rfl, hg⟩
        have hb := hg.bel
        clear hg
        try go_wp2_with fail
        refine hK.out _ _ ?hs62 (fun hS3 => ?_)
        case hs62 => exact bel_next hS2 hb
        clear hK K hb
        try simp only [Act.put, List.setIfInBounds_toArray, List.set_cons_zero, List.set_cons_succ]
        refine wpAnyH_ready (rs := [17]) (by kernel_rfl) (by simp) ?_
        refine AllReadyH.cons rfl (fun K hK => ?_) AllReadyH.nil
        go_simp
        refine (HBA.out _).mono ?_
        rintro e w' ⟨rfl, hg⟩
        have hb := hg.bel
        clear hg
        try go_wp2_with fail
        refine hK.out _ _ ?hs63 (fun hS4 => ?_)
        case hs63 => exact bel_next hS3 hb
        clear hK K hb
        try simp only [Act.put, List.setIfInBounds_toArray, List.set_cons_zero, List.set_cons_succ]
        refine takeInH 18 25 ?v64 rfl rfl (by kernel_rfl) (by kernel_rfl) (by kernel_rfl) (fun _ _ _ h => h) (by kernel_rfl) hS4 ?hy64 ?_
        case hy64 => (intro W hW; clear hW; go_simp; try rfl)
        simp only [Act.put, List.setIfInBounds_toArray, List.set_cons_zero, List.set_cons_succ]
        refine takeInH 19 26 ?v65 rfl rfl (by kernel_rfl) (by kernel_rfl) (by kernel_rfl) (fun _ _ _ h => h) (by kernel_rfl) hS4 ?hy65 ?_
        case hy65 => (intro W hW; clear hW; go_simp; try rfl)
        simp only [Act.put, List.setIfInBounds_toArray, List.set_cons_zero, List.set_cons_succ]
        refine takeInH 20 27 ?v66 rfl rfl (by kernel_rfl) (by kernel_rfl) (by kernel_rfl) (fun _ _ _ h => h) (by kernel_rfl) hS4 ?hy66 ?_
        case hy66 => (intro W hW; clear hW; go_simp; try rfl)
        simp only [Act.put, List.setIfInBounds_toArray, List.set_cons_zero, List.set_cons_succ]
        refine takeInH 21 28 ?v67 rfl rfl (by kernel_rfl) (by kernel_rfl) (by kernel_rfl) (fun _ _ _ h => h) (by kernel_rfl) hS4 ?hy67 ?_
        case hy67 => (intro W hW; clear hW; go_simp; try rfl)
        simp only [Act.put, List.setIfInBounds_toArray, List.set_cons_zero, List.set_cons_succ]
        refine takeInH 22 29 ?v68 rfl rfl (by kernel_rfl) (by kernel_rfl) (by kernel_rfl) (fun _ _ _ h => h) (by kernel_rfl) hS4 ?hy68 ?_
        case hy68 => (intro W hW; have e0 := bcell hW a0; have e1 := bcell hW a1; have e2 := bcell hW b0; have e3 := bcell hW b1; have e4 := bcell hW d0; have e5 := bcell hW d1; clear hW; go_simp; try rfl)
        simp only [Act.put, List.setIfInBounds_toArray, List.set_cons_zero, List.set_cons_succ]
        refine takeInH 23 30 ?v69 rfl rfl (by kernel_rfl) (by kernel_rfl) (by kernel_rfl) (fun _ _ _ h => h) (by kernel_rfl) hS4 ?hy69 ?_
        case hy69 => (intro W hW; have e0 := bcell hW a0; have e1 := bcell hW a1; have e2 := bcell hW b0; have e3 := bcell hW b1; have e4 := bcell hW d0; have e5 := bcell hW d1; clear hW; go_simp; try rfl)
        simp only [Act.put, List.setIfInBounds_toArray, List.set_cons_zero, List.set_cons_succ]
        refine wpAnyH_ready (rs := [24]) (by kernel_rfl) (by simp) ?_
        refine AllReadyH.cons rfl (fun K hK => ?_) AllReadyH.nil
        go_simp
        refine (HAA.out _).mono ?_
        rintro e w' ⟨rfl, hg⟩
        have hb := hg.bel
        clear hg
        try go_wp2_with fail
        refine hK.out _ _ ?hs70 (fun hS5 => ?_)
        case hs70 => exact bel_next hS4 hb
        clear hK K hb
        try simp only [Act.put, List.setIfInBounds_toArray, List.set_cons_zero, List.set_cons_succ]
        refine takeInH 25 32 ?v71 rfl rfl (by kernel_rfl) (by kernel_rfl) (by kernel_rfl) (fun _ _ _ h => h) (by kernel_rfl) hS5 ?hy71 ?_
        case hy71 => (intro W hW; clear hW; go_simp; try rfl)
        simp only [Act.put, List.setIfInBounds_toArray, List.set_cons_zero, List.set_cons_succ]
        refine wpAnyH_done (by kernel_rfl) ?_ _
        replace a0 := bcell hS5 a0
        replace a1 := bcell hS5 a1
        replace b0 := bcell hS5 b0
        replace b1 := bcell hS5 b1
        replace d0 := bcell hS5 d0
        replace d1 := bcell hS5 d1
        replace HU := hide (bel_next HU.out hS5)
        clear hS0 hS1 hS2 hS3 hS4 hS5 hq
        go_wp2_with fail
        refine (HAB.out _).mono ?_
        rintro e u2 ⟨rfl, hb⟩
        replace hb := hb.bel
        replace a0 := bcell hb a0
        replace a1 := bcell hb a1
        replace b0 := bcell hb b0
        replace b1 := bcell hb b1
        replace d0 := bcell hb d0
        replace d1 := bcell hb d1
        replace HU := hide (bel_next HU.out hb)
        clear hb
        go_wp2_with fail
        refine (HBC.out _).mono ?_
        rintro e u2 ⟨rfl, hb⟩
        replace hb := hb.bel
        replace a0 := bcell hb a0
        replace a1 := bcell hb a1
        replace b0 := bcell hb b0
        replace b1 := bcell hb b1
        replace d0 := bcell hb d0
        replace d1 := bcell hb d1
        replace HU := hide (bel_next HU.out hb)
        clear hb
        go_wp2_with fail
        refine (awake4 _).mono ?_
        rintro e u2 ⟨rfl, hb⟩
        replace a0 := bcell hb a0
        replace a1 := bcell hb a1
        replace b0 := bcell hb b0
        replace b1 := bcell hb b1
        replace d0 := bcell hb d0
        replace d1 := bcell hb d1
        replace HU := hide (bel_next HU.out hb)
        clear hb
        go_wp2
        go_ret
        exact ⟨rfl, HU.out⟩
      · rw [hab] at HAB HRab
        have hba : lessD (p, q) (r, s) = false := by
          exact lessD_asym hab
        rw [hba] at HBA
        have hq := fun w => eqD r s p q false (by symm; exact decide_eq_false (fun z => hne (Prod.ext z.1 z.2))) w
        rw [hbc] at HBC
        rw [lessD_trans hab hbc] at HAC
        go_enter Try.func6, Try.ntmps6
        go_wp2
        generalize ((w.alloc (bxD r s)).alloc (bxD p q)).alloc (bxD x y) = u at *
        refine wp_region_held_drew (S := fun W => Below u.heap.size u W) (by kernel_rfl) ((Below.refl _ u).drew) (fun hS0 => ?_)
        refine takeInH 0 7 ?v72 rfl rfl (by kernel_rfl) (by kernel_rfl) (by kernel_rfl) (fun _ _ _ h => h) (by kernel_rfl) hS0 ?hy72 ?_
        case hy72 => (intro W hW; have e0 := bcell hW a0; have e1 := bcell hW a1; have e2 := bcell hW b0; have e3 := bcell hW b1; have e4 := bcell hW d0; have e5 := bcell hW d1; clear hW; go_simp; try rfl)
        simp only [Act.put, List.setIfInBounds_toArray, List.set_cons_zero, List.set_cons_succ]
        refine takeInH 1 8 ?v73 rfl rfl (by kernel_rfl) (by kernel_rfl) (by kernel_rfl) (fun _ _ _ h => h) (by kernel_rfl) hS0 ?hy73 ?_
        case hy73 => (intro W hW; have e0 := bcell hW a0; have e1 := bcell hW a1; have e2 := bcell hW b0; have e3 := bcell hW b1; have e4 := bcell hW d0; have e5 := bcell hW d1; clear hW; go_simp; try rfl)
        simp only [Act.put, List.setIfInBounds_toArray, List.set_cons_zero, List.set_cons_succ]
        refine takeInH 3 10 ?v74 rfl rfl (by kernel_rfl) (by kernel_rfl) (by kernel_rfl) (fun _ _ _ h => h) (by kernel_rfl) hS0 ?hy74 ?_
        case hy74 => (intro W hW; have e0 := bcell hW a0; have e1 := bcell hW a1; have e2 := bcell hW b0; have e3 := bcell hW b1; have e4 := bcell hW d0; have e5 := bcell hW d1; clear hW; go_simp; try rfl)
        simp only [Act.put, List.setIfInBounds_toArray, List.set_cons_zero, List.set_cons_succ]
        refine takeInH 4 11 ?v75 rfl rfl (by kernel_rfl) (by kernel_rfl) (by kernel_rfl) (fun _ _ _ h => h) (by kernel_rfl) hS0 ?hy75 ?_
        case hy75 => (intro W hW; have e0 := bcell hW a0; have e1 := bcell hW a1; have e2 := bcell hW b0; have e3 := bcell hW b1; have e4 := bcell hW d0; have e5 := bcell hW d1; clear hW; go_simp; try rfl)
        simp only [Act.put, List.setIfInBounds_toArray, List.set_cons_zero, List.set_cons_succ]
        refine wpAnyH_ready (rs := [2]) (by kernel_rfl) (by simp) ?_
        refine AllReadyH.cons rfl (fun K hK => ?_) AllReadyH.nil
        go_simp
        refine (HAB.out _).mono ?_
        rintro e w' ⟨rfl, hg⟩
        have hb := hg.bel
        clear hg
        try go_wp2_with fail
        refine hK.out _ _ ?hs76 (fun hS1 => ?_)
        case hs76 => exact bel_next hS0 hb
        clear hK K hb
        try simp only [Act.put, List.setIfInBounds_toArray, List.set_cons_zero, List.set_cons_succ]
        refine wpAnyH_ready (rs := [5]) (by kernel_rfl) (by simp) ?_
        refine AllReadyH.cons rfl (fun K hK => ?_) AllReadyH.nil
        go_simp
        refine (HRab.out _).mono ?_
        rintro e w' ⟨rfl, hg⟩
        have hb := hg.bel
        clear hg
        try go_wp2_with fail
        refine hK.out _ _ ?hs77 (fun hS2 => ?_)
        case hs77 => exact bel_next hS1 hb
        clear hK K hb
        try simp only [Act.put, List.setIfInBounds_toArray, List.set_cons_zero, List.set_cons_succ]
        refine takeInH 6 13 ?v78 rfl rfl (by kernel_rfl) (by kernel_rfl) (by kernel_rfl) (fun _ _ _ h => h) (by kernel_rfl) hS2 ?hy78 ?_
        case hy78 => (intro W hW; clear hW; go_simp; try rfl)
        simp only [Act.put, List.setIfInBounds_toArray, List.set_cons_zero, List.set_cons_succ]
        refine takeInH 7 14 ?v79 rfl rfl (by kernel_rfl) (by kernel_rfl) (by kernel_rfl) (fun _ _ _ h => h) (by kernel_rfl) hS2 ?hy79 ?_
        case hy79 => (intro W hW; clear hW; go_simp; try rfl)
        simp only [Act.put, List.setIfInBounds_toArray, List.set_cons_zero, List.set_cons_succ]
        refine takeInH 8 15 ?v80 rfl rfl (by kernel_rfl) (by kernel_rfl) (by kernel_rfl) (fun _ _ _ h => h) (by kernel_rfl) hS2 ?hy80 ?_
        case hy80 => (intro W hW; have e0 := bcell hW a0; have e1 := bcell hW a1; have e2 := bcell hW b0; have e3 := bcell hW b1; have e4 := bcell hW d0; have e5 := bcell hW d1; clear hW; go_simp; try rfl)
        simp only [Act.put, List.setIfInBounds_toArray, List.set_cons_zero, List.set_cons_succ]
        refine takeInH 9 16 ?v81 rfl rfl (by kernel_rfl) (by kernel_rfl) (by kernel_rfl) (fun _ _ _ h => h) (by kernel_rfl) hS2 ?hy81 ?_
        case hy81 => (intro W hW; have e0 := bcell hW a0; have e1 := bcell hW a1; have e2 := bcell hW b0; have e3 := bcell hW b1; have e4 := bcell hW d0; have e5 := bcell hW d1; clear hW; go_simp; try rfl)
        simp only [Act.put, List.setIfInBounds_toArray, List.set_cons_zero, List.set_cons_succ]
        refine takeInH 10 17 ?v82 rfl rfl (by kernel_rfl) (by kernel_rfl) (by kernel_rfl) (fun _ _ _ h => h) (by kernel_rfl) hS2 ?hy82 ?_
        case hy82 => (intro W hW; clear hW; go_simp; try rfl)
        simp only [Act.put, List.setIfInBounds_toArray, List.set_cons_zero, List.set_cons_succ]
        refine takeInH 11 18 ?v83 rfl rfl (by kernel_rfl) (by kernel_rfl) (by kernel_rfl) (fun _ _ _ h => h) (by kernel_rfl) hS2 ?hy83 ?_
        case hy83 => (intro W hW; clear hW; go_simp; try rfl)
        simp only [Act.put, List.setIfInBounds_toArray, List.set_cons_zero, List.set_cons_succ]
        refine takeInH 12 19 ?v84 rfl rfl (by kernel_rfl) (by kernel_rfl) (by kernel_rfl) (fun _ _ _ h => h) (by kernel_rfl) hS2 ?hy84 ?_
        case hy84 => (intro W hW; have e0 := bcell hW a0; have e1 := bcell hW a1; have e2 := bcell hW b0; have e3 := bcell hW b1; have e4 := bcell hW d0; have e5 := bcell hW d1; clear hW; go_simp; try rfl)
        simp only [Act.put, List.setIfInBounds_toArray, List.set_cons_zero, List.set_cons_succ]
        refine takeInH 13 20 ?v85 rfl rfl (by kernel_rfl) (by kernel_rfl) (by kernel_rfl) (fun _ _ _ h => h) (by kernel_rfl) hS2 ?hy85 ?_
        case hy85 => (intro W hW; have e0 := bcell hW a0; have e1 := bcell hW a1; have e2 := bcell hW b0; have e3 := bcell hW b1; have e4 := bcell hW d0; have e5 := bcell hW d1; clear hW; go_simp; try rfl)
        simp only [Act.put, List.setIfInBounds_toArray, List.set_cons_zero, List.set_cons_succ]
        refine takeInH 15 22 ?v86 rfl rfl (by kernel_rfl) (by kernel_rfl) (by kernel_rfl) (fun _ _ _ h => h) (by kernel_rfl) hS2 ?hy86 ?_
        case hy86 => (intro W hW; have e0 := bcell hW a0; have e1 := bcell hW a1; have e2 := bcell hW b0; have e3 := bcell hW b1; have e4 := bcell hW d0; have e5 := bcell hW d1; clear hW; go_simp; try rfl)
        simp only [Act.put, List.setIfInBounds_toArray, List.set_cons_zero, List.set_cons_succ]
        refine takeInH 16 23 ?v87 rfl rfl (by kernel_rfl) (by kernel_rfl) (by kernel_rfl) (fun _ _ _ h => h) (by kernel_rfl) hS2 ?hy87 ?_
        case hy87 => (intro W hW; have e0 := bcell hW a0; have e1 := bcell hW a1; have e2 := bcell hW b0; have e3 := bcell hW b1; have e4 := bcell hW d0; have e5 := bcell hW d1; clear hW; go_simp; try rfl)
        simp only [Act.put, List.setIfInBounds_toArray, List.set_cons_zero, List.set_cons_succ]
        refine wpAnyH_ready (rs := [14]) (by kernel_rfl) (by simp) ?_
        refine AllReadyH.cons rfl (fun K hK => ?_) AllReadyH.nil
        go_simp
        refine (HAB.out _).mono ?_
        rintro e w' ⟨rfl, hg⟩
        have hb := hg.bel
        clear hg
        try go_wp2_with fail
        refine hK.out _ _ ?hs88 (fun hS3 => ?_)
        case hs88 => exact bel_next hS2 hb
        clear hK K hb
        try simp only [Act.put, List.setIfInBounds_toArray, List.set_cons_zero, List.set_cons_succ]
        refine wpAnyH_ready (rs := [17]) (by kernel_rfl) (by simp) ?_
        refine AllReadyH.cons rfl (fun K hK => ?_) AllReadyH.nil
        go_simp
        refine (HBA.out _).mono ?_
        rintro e w' ⟨rfl, hg⟩
        have hb := hg.bel
        clear hg
        try go_wp2_with fail
        refine hK.out _ _ ?hs89 (fun hS4 => ?_)
        case hs89 => exact bel_next hS3 hb
        clear hK K hb
        try simp only [Act.put, List.setIfInBounds_toArray, List.set_cons_zero, List.set_cons_succ]
        refine takeInH 18 25 ?v90 rfl rfl (by kernel_rfl) (by kernel_rfl) (by kernel_rfl) (fun _ _ _ h => h) (by kernel_rfl) hS4 ?hy90 ?_
        case hy90 => (intro W hW; clear hW; go_simp; try rfl)
        simp only [Act.put, List.setIfInBounds_toArray, List.set_cons_zero, List.set_cons_succ]
        refine takeInH 19 26 ?v91 rfl rfl (by kernel_rfl) (by kernel_rfl) (by kernel_rfl) (fun _ _ _ h => h) (by kernel_rfl) hS4 ?hy91 ?_
        case hy91 => (intro W hW; clear hW; go_simp; try rfl)
        simp only [Act.put, List.setIfInBounds_toArray, List.set_cons_zero, List.set_cons_succ]
        refine takeInH 20 27 ?v92 rfl rfl (by kernel_rfl) (by kernel_rfl) (by kernel_rfl) (fun _ _ _ h => h) (by kernel_rfl) hS4 ?hy92 ?_
        case hy92 => (intro W hW; clear hW; go_simp; try rfl)
        simp only [Act.put, List.setIfInBounds_toArray, List.set_cons_zero, List.set_cons_succ]
        refine takeInH 21 28 ?v93 rfl rfl (by kernel_rfl) (by kernel_rfl) (by kernel_rfl) (fun _ _ _ h => h) (by kernel_rfl) hS4 ?hy93 ?_
        case hy93 => (intro W hW; clear hW; go_simp; try rfl)
        simp only [Act.put, List.setIfInBounds_toArray, List.set_cons_zero, List.set_cons_succ]
        refine takeInH 22 29 ?v94 rfl rfl (by kernel_rfl) (by kernel_rfl) (by kernel_rfl) (fun _ _ _ h => h) (by kernel_rfl) hS4 ?hy94 ?_
        case hy94 => (intro W hW; have e0 := bcell hW a0; have e1 := bcell hW a1; have e2 := bcell hW b0; have e3 := bcell hW b1; have e4 := bcell hW d0; have e5 := bcell hW d1; clear hW; go_simp; try rfl)
        simp only [Act.put, List.setIfInBounds_toArray, List.set_cons_zero, List.set_cons_succ]
        refine takeInH 23 30 ?v95 rfl rfl (by kernel_rfl) (by kernel_rfl) (by kernel_rfl) (fun _ _ _ h => h) (by kernel_rfl) hS4 ?hy95 ?_
        case hy95 => (intro W hW; have e0 := bcell hW a0; have e1 := bcell hW a1; have e2 := bcell hW b0; have e3 := bcell hW b1; have e4 := bcell hW d0; have e5 := bcell hW d1; clear hW; go_simp; try rfl)
        simp only [Act.put, List.setIfInBounds_toArray, List.set_cons_zero, List.set_cons_succ]
        refine wpAnyH_ready (rs := [24]) (by kernel_rfl) (by simp) ?_
        refine AllReadyH.cons rfl (fun K hK => ?_) AllReadyH.nil
        go_simp
        refine (HAA.out _).mono ?_
        rintro e w' ⟨rfl, hg⟩
        have hb := hg.bel
        clear hg
        try go_wp2_with fail
        refine hK.out _ _ ?hs96 (fun hS5 => ?_)
        case hs96 => exact bel_next hS4 hb
        clear hK K hb
        try simp only [Act.put, List.setIfInBounds_toArray, List.set_cons_zero, List.set_cons_succ]
        refine takeInH 25 32 ?v97 rfl rfl (by kernel_rfl) (by kernel_rfl) (by kernel_rfl) (fun _ _ _ h => h) (by kernel_rfl) hS5 ?hy97 ?_
        case hy97 => (intro W hW; clear hW; go_simp; try rfl)
        simp only [Act.put, List.setIfInBounds_toArray, List.set_cons_zero, List.set_cons_succ]
        refine wpAnyH_done (by kernel_rfl) ?_ _
        replace a0 := bcell hS5 a0
        replace a1 := bcell hS5 a1
        replace b0 := bcell hS5 b0
        replace b1 := bcell hS5 b1
        replace d0 := bcell hS5 d0
        replace d1 := bcell hS5 d1
        replace HU := hide (bel_next HU.out hS5)
        clear hS0 hS1 hS2 hS3 hS4 hS5 hq
        go_wp2_with fail
        refine (HAB.out _).mono ?_
        rintro e u2 ⟨rfl, hb⟩
        replace hb := hb.bel
        replace a0 := bcell hb a0
        replace a1 := bcell hb a1
        replace b0 := bcell hb b0
        replace b1 := bcell hb b1
        replace d0 := bcell hb d0
        replace d1 := bcell hb d1
        replace HU := hide (bel_next HU.out hb)
        clear hb
        go_wp2_with fail
        refine (HBC.out _).mono ?_
        rintro e u2 ⟨rfl, hb⟩
        replace hb := hb.bel
        replace a0 := bcell hb a0
        replace a1 := bcell hb a1
        replace b0 := bcell hb b0
        replace b1 := bcell hb b1
        replace d0 := bcell hb d0
        replace d1 := bcell hb d1
        replace HU := hide (bel_next HU.out hb)
        clear hb
        go_wp2_with fail
        refine (HAC.out _).mono ?_
        rintro e u2 ⟨rfl, hb⟩
        replace hb := hb.bel
        replace a0 := bcell hb a0
        replace a1 := bcell hb a1
        replace b0 := bcell hb b0
        replace b1 := bcell hb b1
        replace d0 := bcell hb d0
        replace d1 := bcell hb d1
        replace HU := hide (bel_next HU.out hb)
        clear hb
        go_wp2_with fail
        refine (awake4 _).mono ?_
        rintro e u2 ⟨rfl, hb⟩
        replace a0 := bcell hb a0
        replace a1 := bcell hb a1
        replace b0 := bcell hb b0
        replace b1 := bcell hb b1
        replace d0 := bcell hb d0
        replace d1 := bcell hb d1
        replace HU := hide (bel_next HU.out hb)
        clear hb
        go_wp2
        go_ret
        exact ⟨rfl, HU.out⟩

/-! ### The row's step -/
set_option maxRecDepth 100000 in
theorem lifted (os : Os) (started : os.Started) (H : Type) (enc : TypeId × Value → H) :
    ReturnsInHanded {} Try.checked os 6 .any (Rows.dotsLessSpec.pre6 enc Try.prog Try.f6 Rows.dotsLessRow.domain false) (Rows.dotsLessSpec.post enc Try.prog Try.f6 false true false false) := by
  refine returnsInHanded_of_change_sized (C := Try.checked) own started (by kernel_rfl) Try.func6
    (ChangeSpec.witness6 (enc := enc) (C := Try.checked) false ⟨#[], #[.agg #[.int .i64 0, .int .i64 0], .agg #[.int .i64 0, .int .i64 0], .agg #[.int .i64 0, .int .i64 0]], []⟩ 8 (by kernel_rfl) (by kernel_rfl) (by kernel_rfl) (by kernel_rfl)) ?_
  intro W base args ds gs before hval0 hW hcnd hz0 _
  have hval : ∀ (j : Nat) t v, Try.f6.params[j]? = some t → args[j]? = some v → Value.okWide Try.prog W .any base t v := hval0
  have hz : (DataW.weightsEach Try.prog (Try.f6.params.toList ++ Rows.dotsLessSpec.plain.varTypes Try.prog) (ds ++ gs)).all (· ≤ reachBytes) = true := hz0
  have hW' := hW
  obtain ⟨p, q, hA0, hV, rfl, hfz, hnd⟩ := hW
  have hA : DataW.TrodAll enc Try.prog W 0 (fun _ => true) true Try.f6.params.toList args.toList ds p := hA0
  rw [Try.params6] at hA hval hz
  obtain ⟨v0, vs0, d0, ds0, p0, q0, hargs, rfl, rfl, h0, r0⟩ := trodAll_cons hA
  obtain ⟨v1, vs1, d1, ds1, p1, q1, rfl, rfl, rfl, h1, r1⟩ := trodAll_cons r0
  obtain ⟨v2, vs2, d2, ds2, p2, q2, rfl, rfl, rfl, h2, r2⟩ := trodAll_cons r1
  obtain ⟨rfl, rfl, rfl⟩ := trodAll_nil r2
  obtain rfl : args = #[v0, v1, v2] := by cases args; simp_all
  obtain ⟨rfl, rfl⟩ := trodVars_none hV
  have k0 := h0
  have lt0 : ∀ x ∈ p0, x.block < W.heap.size := by obtain ⟨m, hm⟩ := k0; exact DataW.trod_lt m _ _ _ hm
  have w0 : InD W v0 := in_dot (hval 0 28 v0 rfl rfl) h0 (fun n hn => by have := List.all_eq_true.1 hz n (DataW.weights_mem_each (j := 0) (t := 28) rfl rfl n hn); simpa using this)
  have k1 := h1
  have lt1 : ∀ x ∈ p1, x.block < W.heap.size := by obtain ⟨m, hm⟩ := k1; exact DataW.trod_lt m _ _ _ hm
  have w1 : InD W v1 := in_dot (hval 1 28 v1 rfl rfl) h1 (fun n hn => by have := List.all_eq_true.1 hz n (DataW.weights_mem_each (j := 1) (t := 28) rfl rfl n hn); simpa using this)
  have k2 := h2
  have lt2 : ∀ x ∈ p2, x.block < W.heap.size := by obtain ⟨m, hm⟩ := k2; exact DataW.trod_lt m _ _ _ hm
  have w2 : InD W v2 := in_dot (hval 2 28 v2 rfl rfl) h2 (fun n hn => by have := List.all_eq_true.1 hz n (DataW.weights_mem_each (j := 2) (t := 28) rfl rfl n hn); simpa using this)
  clear hA0 hval0 hz0
  refine (walk v0 v1 v2 W w0 w1 w2).mono fun e W' ⟨he, bel⟩ => ?_
  subst he
  exact ⟨_, rfl, _, _, _, [], _, [], hW', trodAll_mk1 (shut_bool Try.underlying4 _), (trodAll_cons_mk (Below.trod laidOut (by kernel_rfl) (of_decide_eq_true (by kernel_rfl)) k0 bel lt0) (trodAll_cons_mk (Below.trod laidOut (by kernel_rfl) (of_decide_eq_true (by kernel_rfl)) k1 bel lt1) (trodAll_cons_mk (Below.trod laidOut (by kernel_rfl) (of_decide_eq_true (by kernel_rfl)) k2 bel lt2) trodAll_mk0))), rfl, bel.frame _, fun h => by cases h⟩

theorem over : Rows.dotsLessRow.holds Try.pinned (OpenSpec.ofChange Rows.dotsLessSpec) :=
  OpenClaim.holds_of_wide 6 Try.f6 rfl rfl rfl rfl rfl rfl rfl ⟨rfl, rfl, rfl, rfl, rfl⟩ rfl rfl rfl rfl rfl (by kernel_rfl) Try.func6 (by kernel_rfl)
    (of_decide_eq_true (by kernel_rfl)) (by unfold Func.isWrapper; first | (rw [if_pos (by decide +kernel)]; kernel_rfl) | (rw [if_neg (by decide +kernel)]; exact ⟨rfl, rfl⟩))
    (fun os started H enc _ => lifted os started H enc)
end Go.Proofs.Ytccpbkemiilgcaa.dotsLess
namespace Go.Proofs.Ytccpbkemiilgcaa
theorem dotsLess_holds : Rows.DotsLessSaid := dotsLess.over
end Go.Proofs.Ytccpbkemiilgcaa
