/- EventPuts is true for every two events: which effects and events may be, an event's bytes, that what is put is got, and whether two are alike, as the document has it. No condition. -/
import Derived.Test.YtooggheoaglbeaaRows
import Derived.WalkKit
import Derived.ProofKit
import Derived.OpenShut
import Derived.ShutString
import Derived.ChangeOld
import Derived.Below
import Derived.SizedLaws
import Derived.Test.YtooggheoaglbeaaJ6
import Derived.Test.YtooggheoaglbeaaJ8
import Derived.Test.YtooggheoaglbeaaJ5
import Derived.Test.YtooggheoaglbeaaJ10
import Derived.Test.YtooggheoaglbeaaJ7
import Derived.Test.YtooggheoaglbeaaJ12

namespace Go.Proofs.Ytooggheoaglbeaa.eventPuts
open Go.ChangeShapes Go.WideShapes Go.ChangeAt Go.RowKit
set_option linter.unusedVariables false

theorem own : ownKnob Try.prog.godebug = none := by kernel_rfl
theorem laidOut : laidOutB Try.prog = true := by kernel_rfl

theorem eq_errT (b : Bool) (h : b = true) : (errB b == 0) = true := by rw [h]; rfl
theorem put_by {e : Evt} (h : ∀ x ∈ e.2.2, ByF x) : By (putE e) := pack_by (fun t ht => by
  rcases List.mem_cons.1 ht with rfl | ht
  · exact putD2_by _
  · rcases List.mem_cons.1 ht with rfl | ht
    · exact putC_by _
    · obtain ⟨f, hf, rfl⟩ := List.mem_map.1 ht
      exact putF_by (h f hf))
set_option maxHeartbeats 16000000 in
set_option maxRecDepth 100000 in
theorem walk (v0 : Value) (v1 : Value) (w : World) (w0 : InE w v0) (w1 : InE w v1) :
    Calls Try.prog 3 #[v0, v1] w fun e w' => e = .returned (.bool true) ∧ Below w.heap.size w w' := by
  obtain ⟨r, s, pa, na, ca, pe, ne, ce, c, l, rfl, hN, hCa, hE, hCe⟩ := w0
  obtain ⟨r', s', pb, nb, cb, pf, nf, cf, c', l', rfl, hN', hCa', hE', hCe'⟩ := w1
  have N1 := hide ((hN.alloc (bxE r s pa na ca pe ne ce)).alloc (bxE r' s' pb nb cb pf nf cf))
  have N2 := hide ((hN'.alloc (bxE r s pa na ca pe ne ce)).alloc (bxE r' s' pb nb cb pf nf cf))
  have E1 := hide ((hE.alloc (bxE r s pa na ca pe ne ce)).alloc (bxE r' s' pb nb cb pf nf cf))
  have E2 := hide ((hE'.alloc (bxE r s pa na ca pe ne ce)).alloc (bxE r' s' pb nb cb pf nf cf))
  have X1 := hide ((BX.new w _ rfl #[.int .i64 r, .int .i64 s, .slice pa na ca, .slice pe ne ce] 28).alloc (bxE r' s' pb nb cb pf nf cf))
  have X2 := hide (BX.new (w.alloc (bxE r s pa na ca pe ne ce)) (w.heap.size + 1) (by simp) #[.int .i64 r', .int .i64 s', .slice pb nb cb, .slice pf nf cf] 28)
  have HB := hide (bel2 w (bxE r s pa na ca pe ne ce) (bxE r' s' pb nb cb pf nf cf))
  have HAW := hide (fun W => awake5 W)
  have HCP1 := hide hCa
  have HCP2 := hide hCe
  have HCP3 := hide hCa'
  have HCP4 := hide hCe'
  have hmx := hE.1.2.1
  unfold maxLen at hmx
  have hln := hide hE.1.1
  have hbyE := hide hE.2
  clear hN hN' hE hE' hCa hCe hCa' hCe'
  go_enter Try.func3, Try.ntmps3
  go_wp2_with (go_at_call 8; refine Stop.at ?_)
  unfold Stop
  have hsz : ((w.alloc (bxE r s pa na ca pe ne ce)).alloc (bxE r' s' pb nb cb pf nf cf)).heap.size = w.heap.size + 1 + 1 := by simp
  generalize hu : (w.alloc (bxE r s pa na ca pe ne ce)).alloc (bxE r' s' pb nb cb pf nf cf) = u at *
  clear hu
  refine Calls.mono (light5 _ 2 2 [((r, s), c, l), ((r', s'), c', l')] _ (EVS.new u _ ?_ [(r, s, (pa, na, ca), (pe, ne, ce)), (r', s', (pb, nb, cb), (pf, nf, cf))] _ _ rfl _ _ 2 rfl rfl (by decide) ?_)) ?_
  · exact hsz.symm
  · intro i x e hx he
    rcases i with _ | _ | i
    · simp at hx he
      subst hx he
      exact ⟨rfl, ⟨N1.out, HCP1.out⟩, E1.out, HCP2.out⟩
    · simp at hx he
      subst hx he
      exact ⟨rfl, ⟨N2.out, HCP3.out⟩, E2.out, HCP4.out⟩
    · simp at hx
  rintro e w2 ⟨lb, rfl, _, hw⟩
  have hb : Below u.heap.size u w2 := by rw [hw]; exact bel1 u _
  clear hw
  replace N1 := hide (N1.out.below hb)
  replace E1 := hide (E1.out.below hb)
  replace N2 := hide (N2.out.below hb)
  replace E2 := hide (E2.out.below hb)
  replace X1 := hide (X1.out.below hb)
  replace X2 := hide (X2.out.below hb)
  replace HB := hide (bel_next HB.out hb)
  clear hb
  cases lb
  · go_wp2_with (go_at_call 9; refine (HAW.out _).mono ?_; rintro e w3 ⟨rfl, hb⟩)
    go_ret
    exact ⟨rfl, bel_next HB.out hb⟩
  go_wp2
  go_loopw [5] (fun i wr => ∃ k : Nat, k ≤ ne ∧ i = .int .i64 k ∧ Hid (Below w2.heap.size w2 wr)) (fun i _ => ne - (intOf i).toNat)
  case atStart => exact ⟨0, by omega, rfl, Below.refl _ _⟩
  case round =>
    obtain ⟨k, hk, rfl, hB⟩ := hrel
    have e3 := (X1.out.below hB.out).cell 3 _ rfl
    by_cases hlt : k < ne
    · obtain ⟨x, hx⟩ : ∃ x, l[k]? = some x := ⟨_, List.getElem?_eq_getElem (by rw [hln.out]; exact hlt)⟩
      rcases E1.out.1.2.2 with h0 | ⟨bb, off, rfl, _⟩
      · omega
      obtain ⟨x0, x1, x2, x3, x4, x5⟩ := E1.out.at k x hx
      replace x0 := bcell hB.out x0
      replace x1 := bcell hB.out x1
      replace x2 := bcell hB.out x2
      replace x3 := bcell hB.out x3
      replace x4 := bcell hB.out x4
      replace x5 := bcell hB.out x5
      have HQS := hide (mayF_S x)
      clear hx
      obtain ⟨xk, xo, xky, xn, xt, xw⟩ := x
      have HCE := hide (fun W => CheckEffect_any xk xo xn xt (strOfNums xky) (strOfNums xw) (mayF (xk, xo, xky, xn, xt, xw)) HQS.out.symm W)
      have HME := hide (fun W => MayEffect_any xk xo xn xt (strOfNums xky) (strOfNums xw) (mayF (xk, xo, xky, xn, xt, xw)) HQS.out.symm W)
      clear HQS
      simp only [] at x0 x1 x2 x3 x4 x5
      generalize strOfNums xky = sk at *
      generalize strOfNums xw = sw at *
      rcases hm : mayF (xk, xo, xky, xn, xt, xw) with _ | _
      · rw [hm] at HCE HME
        have q1 : errB false = 1 := rfl
        rw [q1] at HCE
        clear hm q1
        go_wp2
        refine wp_region_held_drew (S := fun W => Below wr.heap.size wr W) (by kernel_rfl) ((Below.refl _ wr).drew) (fun hS0 => ?_)
        refine takeInH 0 23 ?v1 rfl rfl (by kernel_rfl) (by kernel_rfl) (by kernel_rfl) (fun _ _ _ h => h) (by kernel_rfl) hS0 ?hy1 ?_
        case hy1 => (intro W hW; clear hW; go_simp; try rfl)
        simp only [Act.put, List.setIfInBounds_toArray, List.set_cons_zero, List.set_cons_succ]
        refine takeInH 1 24 ?v2 rfl rfl (by kernel_rfl) (by kernel_rfl) (by kernel_rfl) (fun _ _ _ h => h) (by kernel_rfl) hS0 ?hy2 ?_
        case hy2 => (intro W hW; have e0 := bcell hW e3; have e1 := bcell hW x0; have e2 := bcell hW x1; have e3 := bcell hW x2; have e4 := bcell hW x3; have e5 := bcell hW x4; have e6 := bcell hW x5; clear hW; go_simp; try rfl)
        simp only [Act.put, List.setIfInBounds_toArray, List.set_cons_zero, List.set_cons_succ]
        refine takeInH 2 25 ?v3 rfl rfl (by kernel_rfl) (by kernel_rfl) (by kernel_rfl) (fun _ _ _ h => h) (by kernel_rfl) hS0 ?hy3 ?_
        case hy3 => (intro W hW; clear hW; go_simp; try rfl)
        simp only [Act.put, List.setIfInBounds_toArray, List.set_cons_zero, List.set_cons_succ]
        refine takeInH 3 26 ?v4 rfl rfl (by kernel_rfl) (by kernel_rfl) (by kernel_rfl) (fun _ _ _ h => h) (by kernel_rfl) hS0 ?hy4 ?_
        case hy4 => (intro W hW; clear hW; go_simp; try rfl)
        simp only [Act.put, List.setIfInBounds_toArray, List.set_cons_zero, List.set_cons_succ]
        refine takeInH 4 27 ?v5 rfl rfl (by kernel_rfl) (by kernel_rfl) (by kernel_rfl) (fun _ _ _ h => h) (by kernel_rfl) hS0 ?hy5 ?_
        case hy5 => (intro W hW; have e0 := bcell hW e3; have e1 := bcell hW x0; have e2 := bcell hW x1; have e3 := bcell hW x2; have e4 := bcell hW x3; have e5 := bcell hW x4; have e6 := bcell hW x5; clear hW; go_simp; try rfl)
        simp only [Act.put, List.setIfInBounds_toArray, List.set_cons_zero, List.set_cons_succ]
        refine takeInH 7 30 ?v6 rfl rfl (by kernel_rfl) (by kernel_rfl) (by kernel_rfl) (fun _ _ _ h => h) (by kernel_rfl) hS0 ?hy6 ?_
        case hy6 => (intro W hW; clear hW; go_simp; try rfl)
        simp only [Act.put, List.setIfInBounds_toArray, List.set_cons_zero, List.set_cons_succ]
        refine takeInH 8 31 ?v7 rfl rfl (by kernel_rfl) (by kernel_rfl) (by kernel_rfl) (fun _ _ _ h => h) (by kernel_rfl) hS0 ?hy7 ?_
        case hy7 => (intro W hW; have e0 := bcell hW e3; have e1 := bcell hW x0; have e2 := bcell hW x1; have e3 := bcell hW x2; have e4 := bcell hW x3; have e5 := bcell hW x4; have e6 := bcell hW x5; clear hW; go_simp; try rfl)
        simp only [Act.put, List.setIfInBounds_toArray, List.set_cons_zero, List.set_cons_succ]
        refine takeInH 9 32 ?v8 rfl rfl (by kernel_rfl) (by kernel_rfl) (by kernel_rfl) (fun _ _ _ h => h) (by kernel_rfl) hS0 ?hy8 ?_
        case hy8 => (intro W hW; clear hW; go_simp; try rfl)
        simp only [Act.put, List.setIfInBounds_toArray, List.set_cons_zero, List.set_cons_succ]
        refine takeInH 10 33 ?v9 rfl rfl (by kernel_rfl) (by kernel_rfl) (by kernel_rfl) (fun _ _ _ h => h) (by kernel_rfl) hS0 ?hy9 ?_
        case hy9 => (intro W hW; clear hW; go_simp; try rfl)
        simp only [Act.put, List.setIfInBounds_toArray, List.set_cons_zero, List.set_cons_succ]
        refine takeInH 11 34 ?v10 rfl rfl (by kernel_rfl) (by kernel_rfl) (by kernel_rfl) (fun _ _ _ h => h) (by kernel_rfl) hS0 ?hy10 ?_
        case hy10 => (intro W hW; have e0 := bcell hW e3; have e1 := bcell hW x0; have e2 := bcell hW x1; have e3 := bcell hW x2; have e4 := bcell hW x3; have e5 := bcell hW x4; have e6 := bcell hW x5; clear hW; go_simp; try rfl)
        simp only [Act.put, List.setIfInBounds_toArray, List.set_cons_zero, List.set_cons_succ]
        refine wpAnyH_ready (rs := [5]) (by kernel_rfl) (by simp) ?_
        refine AllReadyH.cons rfl (fun K hK => ?_) AllReadyH.nil
        go_simp
        refine (HCE.out _).mono ?_
        rintro e w' ⟨rfl, hg⟩
        have hb := hg.bel
        clear hg
        try go_wp2_with fail
        refine hK.out _ _ ?hs11 (fun hS1 => ?_)
        case hs11 => exact bel_next hS0 hb
        clear hK K
        try simp only [Act.put, List.setIfInBounds_toArray, List.set_cons_zero, List.set_cons_succ]
        refine takeInH 6 29 ?v12 rfl rfl (by kernel_rfl) (by kernel_rfl) (by kernel_rfl) (fun _ _ _ h => h) (by kernel_rfl) hS1 ?hy12 ?_
        case hy12 => (intro W hW; clear hW; go_simp; try rfl)
        simp only [Act.put, List.setIfInBounds_toArray, List.set_cons_zero, List.set_cons_succ]
        refine wpAnyH_ready (rs := [12]) (by kernel_rfl) (by simp) ?_
        refine AllReadyH.cons rfl (fun K hK => ?_) AllReadyH.nil
        go_simp
        refine (HME.out _).mono ?_
        rintro e w' ⟨rfl, hg⟩
        have hb := hg.bel
        clear hg
        try go_wp2_with fail
        refine hK.out _ _ ?hs13 (fun hS2 => ?_)
        case hs13 => exact bel_next hS1 hb
        clear hK K
        try simp only [Act.put, List.setIfInBounds_toArray, List.set_cons_zero, List.set_cons_succ]
        refine takeInH 13 36 ?v14 rfl rfl (by kernel_rfl) (by kernel_rfl) (by kernel_rfl) (fun _ _ _ h => h) (by kernel_rfl) hS2 ?hy14 ?_
        case hy14 => (intro W hW; clear hW; go_simp; try rfl)
        simp only [Act.put, List.setIfInBounds_toArray, List.set_cons_zero, List.set_cons_succ]
        refine wpAnyH_done (by kernel_rfl) ?_ _
        go_wp2
        go_roundw
        case rel => exact ⟨k + 1, by omega, by go_num, bel_next hB.out hS2⟩
        case measure => simp [intOf]; omega
      · rw [hm] at HCE HME
        have q1 : errB true = 0 := rfl
        rw [q1] at HCE
        clear hm q1
        go_wp2
        refine wp_region_held_drew (S := fun W => Below wr.heap.size wr W) (by kernel_rfl) ((Below.refl _ wr).drew) (fun hS0 => ?_)
        refine takeInH 0 23 ?v15 rfl rfl (by kernel_rfl) (by kernel_rfl) (by kernel_rfl) (fun _ _ _ h => h) (by kernel_rfl) hS0 ?hy15 ?_
        case hy15 => (intro W hW; clear hW; go_simp; try rfl)
        simp only [Act.put, List.setIfInBounds_toArray, List.set_cons_zero, List.set_cons_succ]
        refine takeInH 1 24 ?v16 rfl rfl (by kernel_rfl) (by kernel_rfl) (by kernel_rfl) (fun _ _ _ h => h) (by kernel_rfl) hS0 ?hy16 ?_
        case hy16 => (intro W hW; have e0 := bcell hW e3; have e1 := bcell hW x0; have e2 := bcell hW x1; have e3 := bcell hW x2; have e4 := bcell hW x3; have e5 := bcell hW x4; have e6 := bcell hW x5; clear hW; go_simp; try rfl)
        simp only [Act.put, List.setIfInBounds_toArray, List.set_cons_zero, List.set_cons_succ]
        refine takeInH 2 25 ?v17 rfl rfl (by kernel_rfl) (by kernel_rfl) (by kernel_rfl) (fun _ _ _ h => h) (by kernel_rfl) hS0 ?hy17 ?_
        case hy17 => (intro W hW; clear hW; go_simp; try rfl)
        simp only [Act.put, List.setIfInBounds_toArray, List.set_cons_zero, List.set_cons_succ]
        refine takeInH 3 26 ?v18 rfl rfl (by kernel_rfl) (by kernel_rfl) (by kernel_rfl) (fun _ _ _ h => h) (by kernel_rfl) hS0 ?hy18 ?_
        case hy18 => (intro W hW; clear hW; go_simp; try rfl)
        simp only [Act.put, List.setIfInBounds_toArray, List.set_cons_zero, List.set_cons_succ]
        refine takeInH 4 27 ?v19 rfl rfl (by kernel_rfl) (by kernel_rfl) (by kernel_rfl) (fun _ _ _ h => h) (by kernel_rfl) hS0 ?hy19 ?_
        case hy19 => (intro W hW; have e0 := bcell hW e3; have e1 := bcell hW x0; have e2 := bcell hW x1; have e3 := bcell hW x2; have e4 := bcell hW x3; have e5 := bcell hW x4; have e6 := bcell hW x5; clear hW; go_simp; try rfl)
        simp only [Act.put, List.setIfInBounds_toArray, List.set_cons_zero, List.set_cons_succ]
        refine takeInH 7 30 ?v20 rfl rfl (by kernel_rfl) (by kernel_rfl) (by kernel_rfl) (fun _ _ _ h => h) (by kernel_rfl) hS0 ?hy20 ?_
        case hy20 => (intro W hW; clear hW; go_simp; try rfl)
        simp only [Act.put, List.setIfInBounds_toArray, List.set_cons_zero, List.set_cons_succ]
        refine takeInH 8 31 ?v21 rfl rfl (by kernel_rfl) (by kernel_rfl) (by kernel_rfl) (fun _ _ _ h => h) (by kernel_rfl) hS0 ?hy21 ?_
        case hy21 => (intro W hW; have e0 := bcell hW e3; have e1 := bcell hW x0; have e2 := bcell hW x1; have e3 := bcell hW x2; have e4 := bcell hW x3; have e5 := bcell hW x4; have e6 := bcell hW x5; clear hW; go_simp; try rfl)
        simp only [Act.put, List.setIfInBounds_toArray, List.set_cons_zero, List.set_cons_succ]
        refine takeInH 9 32 ?v22 rfl rfl (by kernel_rfl) (by kernel_rfl) (by kernel_rfl) (fun _ _ _ h => h) (by kernel_rfl) hS0 ?hy22 ?_
        case hy22 => (intro W hW; clear hW; go_simp; try rfl)
        simp only [Act.put, List.setIfInBounds_toArray, List.set_cons_zero, List.set_cons_succ]
        refine takeInH 10 33 ?v23 rfl rfl (by kernel_rfl) (by kernel_rfl) (by kernel_rfl) (fun _ _ _ h => h) (by kernel_rfl) hS0 ?hy23 ?_
        case hy23 => (intro W hW; clear hW; go_simp; try rfl)
        simp only [Act.put, List.setIfInBounds_toArray, List.set_cons_zero, List.set_cons_succ]
        refine takeInH 11 34 ?v24 rfl rfl (by kernel_rfl) (by kernel_rfl) (by kernel_rfl) (fun _ _ _ h => h) (by kernel_rfl) hS0 ?hy24 ?_
        case hy24 => (intro W hW; have e0 := bcell hW e3; have e1 := bcell hW x0; have e2 := bcell hW x1; have e3 := bcell hW x2; have e4 := bcell hW x3; have e5 := bcell hW x4; have e6 := bcell hW x5; clear hW; go_simp; try rfl)
        simp only [Act.put, List.setIfInBounds_toArray, List.set_cons_zero, List.set_cons_succ]
        refine wpAnyH_ready (rs := [5]) (by kernel_rfl) (by simp) ?_
        refine AllReadyH.cons rfl (fun K hK => ?_) AllReadyH.nil
        go_simp
        refine (HCE.out _).mono ?_
        rintro e w' ⟨rfl, hg⟩
        have hb := hg.bel
        clear hg
        try go_wp2_with fail
        refine hK.out _ _ ?hs25 (fun hS1 => ?_)
        case hs25 => exact bel_next hS0 hb
        clear hK K
        try simp only [Act.put, List.setIfInBounds_toArray, List.set_cons_zero, List.set_cons_succ]
        refine takeInH 6 29 ?v26 rfl rfl (by kernel_rfl) (by kernel_rfl) (by kernel_rfl) (fun _ _ _ h => h) (by kernel_rfl) hS1 ?hy26 ?_
        case hy26 => (intro W hW; clear hW; go_simp; try rfl)
        simp only [Act.put, List.setIfInBounds_toArray, List.set_cons_zero, List.set_cons_succ]
        refine wpAnyH_ready (rs := [12]) (by kernel_rfl) (by simp) ?_
        refine AllReadyH.cons rfl (fun K hK => ?_) AllReadyH.nil
        go_simp
        refine (HME.out _).mono ?_
        rintro e w' ⟨rfl, hg⟩
        have hb := hg.bel
        clear hg
        try go_wp2_with fail
        refine hK.out _ _ ?hs27 (fun hS2 => ?_)
        case hs27 => exact bel_next hS1 hb
        clear hK K
        try simp only [Act.put, List.setIfInBounds_toArray, List.set_cons_zero, List.set_cons_succ]
        refine takeInH 13 36 ?v28 rfl rfl (by kernel_rfl) (by kernel_rfl) (by kernel_rfl) (fun _ _ _ h => h) (by kernel_rfl) hS2 ?hy28 ?_
        case hy28 => (intro W hW; clear hW; go_simp; try rfl)
        simp only [Act.put, List.setIfInBounds_toArray, List.set_cons_zero, List.set_cons_succ]
        refine wpAnyH_done (by kernel_rfl) ?_ _
        go_wp2
        go_roundw
        case rel => exact ⟨k + 1, by omega, by go_num, bel_next hB.out hS2⟩
        case measure => simp [intOf]; omega
    · have hkl : k = ne := by omega
      subst hkl
      obtain ⟨u8, hu8⟩ : ∃ x, x = wr := ⟨wr, rfl⟩
      subst hu8
      have hb := hB.out
      replace N1 := hide (N1.out.below hb)
      replace E1 := hide (E1.out.below hb)
      replace N2 := hide (N2.out.below hb)
      replace E2 := hide (E2.out.below hb)
      replace X1 := hide (X1.out.below hb)
      replace X2 := hide (X2.out.below hb)
      replace HB := hide (bel_next HB.out hb)
      clear hb hB
      have e0 := X1.out.cell 0 _ rfl
      have e1 := X1.out.cell 1 _ rfl
      have e2 := X1.out.cell 2 _ rfl
      have e3 := X1.out.cell 3 _ rfl
      have f0 := X2.out.cell 0 _ rfl
      have f1 := X2.out.cell 1 _ rfl
      have f2 := X2.out.cell 2 _ rfl
      have f3 := X2.out.cell 3 _ rfl
      have HQE := hide (fun W (h1 : NS W pa na c) (h2 : NS W pb nb c') (h3 : ES W pe k l) (h4 : ES W pf nf l') => SameE_any r s pa na ca pe k ce r' s' pb nb cb pf nf cf c c' l l' W h1 h2 h3 h4)
      have HQR := hide (fun W (h1 : NS W pa na c) (h2 : NS W pb nb c') (h3 : ES W pe k l) (h4 : ES W pf nf l') => SameR_evt r s pa na ca pe k ce r' s' pb nb cb pf nf cf c c' l l' W h1 h2 h3 h4)
      have HQS := hide (fun W (h1 : NS W pa na c) (h3 : ES W pe k l) => SameE_any r s pa na ca pe k ce r s pa na ca pe k ce c c l l W h1 h1 h3 h3)
      rw [sameB_self] at HQS
      generalize sameB ((r, s), c, l) ((r', s'), c', l') = sb at HQE HQR
      have hbb : (sb != sb) = false := by cases sb <;> rfl
      rcases hm : mayE ((r, s), c, l) with _ | _
      · have HPB := hide (PutE_bad r s pa na ca pe k ce c l u8 N1.out E1.out hm)
        have HMR := hide (fun W (h1 : NS W pa na c) (h3 : ES W pe k l) => MayE_ref r s pa na ca pe k ce c l W h1 h3)
        have HCK := hide (fun W (h1 : NS W pa na c) (h3 : ES W pe k l) => CheckE_any r s pa na ca pe k ce c l W h1 h3)
        rw [hm] at HMR HCK
        have q1 : errB false = 1 := rfl
        rw [q1] at HCK
        clear hm q1
        go_wp2_with (go_at_call 12; refine Stop.at ?_)
        unfold Stop
        refine HPB.out.mono ?_
        rintro e u9 ⟨rfl, hb⟩
        replace N1 := hide (N1.out.below hb)
        replace E1 := hide (E1.out.below hb)
        replace N2 := hide (N2.out.below hb)
        replace E2 := hide (E2.out.below hb)
        replace X1 := hide (X1.out.below hb)
        replace X2 := hide (X2.out.below hb)
        replace HB := hide (bel_next HB.out hb)
        clear hb e0 e1 e2 e3 f0 f1 f2 f3 HPB
        have e0 := X1.out.cell 0 _ rfl
        have e1 := X1.out.cell 1 _ rfl
        have e2 := X1.out.cell 2 _ rfl
        have e3 := X1.out.cell 3 _ rfl
        have f0 := X2.out.cell 0 _ rfl
        have f1 := X2.out.cell 1 _ rfl
        have f2 := X2.out.cell 2 _ rfl
        have f3 := X2.out.cell 3 _ rfl
        go_wp2_with fail
        refine wp_region_held_drew (S := fun W => Below u9.heap.size u9 W) (by kernel_rfl) ((Below.refl _ u9).drew) (fun hS0 => ?_)
        refine takeInH 0 42 ?v29 rfl rfl (by kernel_rfl) (by kernel_rfl) (by kernel_rfl) (fun _ _ _ h => h) (by kernel_rfl) hS0 ?hy29 ?_
        case hy29 => (intro W hW; have e0 := bcell hW e0; have e1 := bcell hW e1; have e2 := bcell hW e2; have e3 := bcell hW e3; have e4 := bcell hW f0; have e5 := bcell hW f1; have e6 := bcell hW f2; have e7 := bcell hW f3; clear hW; go_simp; try rfl)
        simp only [Act.put, List.setIfInBounds_toArray, List.set_cons_zero, List.set_cons_succ]
        refine takeInH 1 43 ?v30 rfl rfl (by kernel_rfl) (by kernel_rfl) (by kernel_rfl) (fun _ _ _ h => h) (by kernel_rfl) hS0 ?hy30 ?_
        case hy30 => (intro W hW; have e0 := bcell hW e0; have e1 := bcell hW e1; have e2 := bcell hW e2; have e3 := bcell hW e3; have e4 := bcell hW f0; have e5 := bcell hW f1; have e6 := bcell hW f2; have e7 := bcell hW f3; clear hW; go_simp; try rfl)
        simp only [Act.put, List.setIfInBounds_toArray, List.set_cons_zero, List.set_cons_succ]
        refine takeInH 3 45 ?v31 rfl rfl (by kernel_rfl) (by kernel_rfl) (by kernel_rfl) (fun _ _ _ h => h) (by kernel_rfl) hS0 ?hy31 ?_
        case hy31 => (intro W hW; have e0 := bcell hW e0; have e1 := bcell hW e1; have e2 := bcell hW e2; have e3 := bcell hW e3; have e4 := bcell hW f0; have e5 := bcell hW f1; have e6 := bcell hW f2; have e7 := bcell hW f3; clear hW; go_simp; try rfl)
        simp only [Act.put, List.setIfInBounds_toArray, List.set_cons_zero, List.set_cons_succ]
        refine takeInH 4 46 ?v32 rfl rfl (by kernel_rfl) (by kernel_rfl) (by kernel_rfl) (fun _ _ _ h => h) (by kernel_rfl) hS0 ?hy32 ?_
        case hy32 => (intro W hW; have e0 := bcell hW e0; have e1 := bcell hW e1; have e2 := bcell hW e2; have e3 := bcell hW e3; have e4 := bcell hW f0; have e5 := bcell hW f1; have e6 := bcell hW f2; have e7 := bcell hW f3; clear hW; go_simp; try rfl)
        simp only [Act.put, List.setIfInBounds_toArray, List.set_cons_zero, List.set_cons_succ]
        refine wpAnyH_ready (rs := [2]) (by kernel_rfl) (by simp) ?_
        refine AllReadyH.cons rfl (fun K hK => ?_) AllReadyH.nil
        go_simp
        refine (HQE.out _ (N1.out.below hS0) (N2.out.below hS0) (E1.out.below hS0) (E2.out.below hS0)).mono ?_
        rintro e w' ⟨rfl, hb⟩
        try go_wp2_with fail
        refine hK.out _ _ ?hs33 (fun hS1 => ?_)
        case hs33 => exact bel_next hS0 hb
        clear hK K
        try simp only [Act.put, List.setIfInBounds_toArray, List.set_cons_zero, List.set_cons_succ]
        refine wpAnyH_ready (rs := [5]) (by kernel_rfl) (by simp) ?_
        refine AllReadyH.cons rfl (fun K hK => ?_) AllReadyH.nil
        go_simp
        refine (HQR.out _ (N1.out.below hS1) (N2.out.below hS1) (E1.out.below hS1) (E2.out.below hS1)).mono ?_
        rintro e w' ⟨rfl, hb⟩
        try go_wp2_with fail
        refine hK.out _ _ ?hs34 (fun hS2 => ?_)
        case hs34 => exact bel_next hS1 hb
        clear hK K
        try simp only [Act.put, List.setIfInBounds_toArray, List.set_cons_zero, List.set_cons_succ]
        refine takeInH 6 48 ?v35 rfl rfl (by kernel_rfl) (by kernel_rfl) (by kernel_rfl) (fun _ _ _ h => h) (by kernel_rfl) hS2 ?hy35 ?_
        case hy35 => (intro W hW; clear hW; go_simp; try rfl)
        simp only [Act.put, List.setIfInBounds_toArray, List.set_cons_zero, List.set_cons_succ]
        refine takeInH 7 49 ?v36 rfl rfl (by kernel_rfl) (by kernel_rfl) (by kernel_rfl) (fun _ _ _ h => h) (by kernel_rfl) hS2 ?hy36 ?_
        case hy36 => (intro W hW; clear hW; go_simp; try rfl)
        simp only [Act.put, List.setIfInBounds_toArray, List.set_cons_zero, List.set_cons_succ]
        refine takeInH 8 50 ?v37 rfl rfl (by kernel_rfl) (by kernel_rfl) (by kernel_rfl) (fun _ _ _ h => h) (by kernel_rfl) hS2 ?hy37 ?_
        case hy37 => (intro W hW; have e0 := bcell hW e0; have e1 := bcell hW e1; have e2 := bcell hW e2; have e3 := bcell hW e3; have e4 := bcell hW f0; have e5 := bcell hW f1; have e6 := bcell hW f2; have e7 := bcell hW f3; clear hW; go_simp; try rfl)
        simp only [Act.put, List.setIfInBounds_toArray, List.set_cons_zero, List.set_cons_succ]
        refine takeInH 9 51 ?v38 rfl rfl (by kernel_rfl) (by kernel_rfl) (by kernel_rfl) (fun _ _ _ h => h) (by kernel_rfl) hS2 ?hy38 ?_
        case hy38 => (intro W hW; have e0 := bcell hW e0; have e1 := bcell hW e1; have e2 := bcell hW e2; have e3 := bcell hW e3; have e4 := bcell hW f0; have e5 := bcell hW f1; have e6 := bcell hW f2; have e7 := bcell hW f3; clear hW; go_simp; try rfl)
        simp only [Act.put, List.setIfInBounds_toArray, List.set_cons_zero, List.set_cons_succ]
        refine wpAnyH_ready (rs := [10]) (by kernel_rfl) (by simp) ?_
        refine AllReadyH.cons rfl (fun K hK => ?_) AllReadyH.nil
        go_simp
        refine (HQS.out _ (N1.out.below hS2) (E1.out.below hS2)).mono ?_
        rintro e w' ⟨rfl, hb⟩
        try go_wp2_with fail
        refine hK.out _ _ ?hs39 (fun hS3 => ?_)
        case hs39 => exact bel_next hS2 hb
        clear hK K
        try simp only [Act.put, List.setIfInBounds_toArray, List.set_cons_zero, List.set_cons_succ]
        refine takeInH 11 53 ?v40 rfl rfl (by kernel_rfl) (by kernel_rfl) (by kernel_rfl) (fun _ _ _ h => h) (by kernel_rfl) hS3 ?hy40 ?_
        case hy40 => (intro W hW; clear hW; go_simp; try rfl)
        simp only [Act.put, List.setIfInBounds_toArray, List.set_cons_zero, List.set_cons_succ]
        refine takeInH 12 54 ?v41 rfl rfl (by kernel_rfl) (by kernel_rfl) (by kernel_rfl) (fun _ _ _ h => h) (by kernel_rfl) hS3 ?hy41 ?_
        case hy41 => (intro W hW; clear hW; go_simp; try rfl)
        simp only [Act.put, List.setIfInBounds_toArray, List.set_cons_zero, List.set_cons_succ]
        refine wpAnyH_done (by kernel_rfl) ?_ _
        replace N1 := hide (N1.out.below hS3)
        replace E1 := hide (E1.out.below hS3)
        replace X1 := hide (X1.out.below hS3)
        replace X2 := hide (X2.out.below hS3)
        replace HB := hide (bel_next HB.out hS3)
        clear e0 e1 e2 e3 f0 f1 f2 f3 HQE N2 E2
        clear hS0 hS1 hS2 hS3
        have e0 := X1.out.cell 0 _ rfl
        have e1 := X1.out.cell 1 _ rfl
        have e2 := X1.out.cell 2 _ rfl
        have e3 := X1.out.cell 3 _ rfl
        go_wp2_with (first
          | (go_at_call 15; refine (HMR.out _ N1.out E1.out).mono ?_; rintro e u10 ⟨rfl, hb⟩; replace N1 := hide (N1.out.below hb); replace E1 := hide (E1.out.below hb); replace HB := hide (bel_next HB.out hb); replace X1 := hide (X1.out.below hb); clear hb e0 e1 e2 e3; have e0 := X1.out.cell 0 _ rfl; have e1 := X1.out.cell 1 _ rfl; have e2 := X1.out.cell 2 _ rfl; have e3 := X1.out.cell 3 _ rfl)
          | (go_at_call 16; refine (HCK.out _ N1.out E1.out).mono ?_; rintro e u11 ⟨rfl, hb⟩; have HB5 := hide (bel_next HB.out hb); clear hb)
          | (go_at_call 9; refine (HAW.out _).mono ?_; rintro e u12 ⟨rfl, hb⟩))
        go_ret
        exact ⟨rfl, bel_next HB5.out hb⟩
      · have HPG := hide (PutE_any r s pa na ca pe k ce c l u8 N1.out E1.out hm)
        have HMR := hide (fun W (h1 : NS W pa na c) (h3 : ES W pe k l) => MayE_ref r s pa na ca pe k ce c l W h1 h3)
        have HCK := hide (fun W (h1 : NS W pa na c) (h3 : ES W pe k l) => CheckE_any r s pa na ca pe k ce c l W h1 h3)
        have HPR := hide (fun W (h1 : NS W pa na c) (h3 : ES W pe k l) => PutR_any r s pa na ca pe k ce c l W h1 h3 hm)
        have HRD := hide (rdE_put hm)
        have HBP := hide (put_by (e := ((r, s), c, l)) hbyE.out)
        rw [hm] at HMR HCK
        have q1 : errB true = 0 := rfl
        rw [q1] at HCK
        clear hm q1
        go_wp2_with (go_at_call 12; refine Stop.at ?_)
        unfold Stop
        refine HPG.out.mono ?_
        rintro e u9 ⟨vb, rfl, hO, hb⟩
        obtain ⟨p6, c6, hv6, hb6, hc6⟩ := hO.open HBP.out
        subst hv6
        have HBS := hide hb6
        have HCS := hide hc6
        replace N1 := hide (N1.out.below hb)
        replace E1 := hide (E1.out.below hb)
        replace N2 := hide (N2.out.below hb)
        replace E2 := hide (E2.out.below hb)
        replace X1 := hide (X1.out.below hb)
        replace X2 := hide (X2.out.below hb)
        replace HB := hide (bel_next HB.out hb)
        clear hb e0 e1 e2 e3 f0 f1 f2 f3 HPG hO hb6 hc6
        have e0 := X1.out.cell 0 _ rfl
        have e1 := X1.out.cell 1 _ rfl
        have e2 := X1.out.cell 2 _ rfl
        have e3 := X1.out.cell 3 _ rfl
        have f0 := X2.out.cell 0 _ rfl
        have f1 := X2.out.cell 1 _ rfl
        have f2 := X2.out.cell 2 _ rfl
        have f3 := X2.out.cell 3 _ rfl
        go_wp2_with fail
        refine wp_region_held_drew (S := fun W => Below u9.heap.size u9 W) (by kernel_rfl) ((Below.refl _ u9).drew) (fun hS0 => ?_)
        refine takeInH 0 42 ?v42 rfl rfl (by kernel_rfl) (by kernel_rfl) (by kernel_rfl) (fun _ _ _ h => h) (by kernel_rfl) hS0 ?hy42 ?_
        case hy42 => (intro W hW; have e0 := bcell hW e0; have e1 := bcell hW e1; have e2 := bcell hW e2; have e3 := bcell hW e3; have e4 := bcell hW f0; have e5 := bcell hW f1; have e6 := bcell hW f2; have e7 := bcell hW f3; clear hW; go_simp; try rfl)
        simp only [Act.put, List.setIfInBounds_toArray, List.set_cons_zero, List.set_cons_succ]
        refine takeInH 1 43 ?v43 rfl rfl (by kernel_rfl) (by kernel_rfl) (by kernel_rfl) (fun _ _ _ h => h) (by kernel_rfl) hS0 ?hy43 ?_
        case hy43 => (intro W hW; have e0 := bcell hW e0; have e1 := bcell hW e1; have e2 := bcell hW e2; have e3 := bcell hW e3; have e4 := bcell hW f0; have e5 := bcell hW f1; have e6 := bcell hW f2; have e7 := bcell hW f3; clear hW; go_simp; try rfl)
        simp only [Act.put, List.setIfInBounds_toArray, List.set_cons_zero, List.set_cons_succ]
        refine takeInH 3 45 ?v44 rfl rfl (by kernel_rfl) (by kernel_rfl) (by kernel_rfl) (fun _ _ _ h => h) (by kernel_rfl) hS0 ?hy44 ?_
        case hy44 => (intro W hW; have e0 := bcell hW e0; have e1 := bcell hW e1; have e2 := bcell hW e2; have e3 := bcell hW e3; have e4 := bcell hW f0; have e5 := bcell hW f1; have e6 := bcell hW f2; have e7 := bcell hW f3; clear hW; go_simp; try rfl)
        simp only [Act.put, List.setIfInBounds_toArray, List.set_cons_zero, List.set_cons_succ]
        refine takeInH 4 46 ?v45 rfl rfl (by kernel_rfl) (by kernel_rfl) (by kernel_rfl) (fun _ _ _ h => h) (by kernel_rfl) hS0 ?hy45 ?_
        case hy45 => (intro W hW; have e0 := bcell hW e0; have e1 := bcell hW e1; have e2 := bcell hW e2; have e3 := bcell hW e3; have e4 := bcell hW f0; have e5 := bcell hW f1; have e6 := bcell hW f2; have e7 := bcell hW f3; clear hW; go_simp; try rfl)
        simp only [Act.put, List.setIfInBounds_toArray, List.set_cons_zero, List.set_cons_succ]
        refine wpAnyH_ready (rs := [2]) (by kernel_rfl) (by simp) ?_
        refine AllReadyH.cons rfl (fun K hK => ?_) AllReadyH.nil
        go_simp
        refine (HQE.out _ (N1.out.below hS0) (N2.out.below hS0) (E1.out.below hS0) (E2.out.below hS0)).mono ?_
        rintro e w' ⟨rfl, hb⟩
        try go_wp2_with fail
        refine hK.out _ _ ?hs46 (fun hS1 => ?_)
        case hs46 => exact bel_next hS0 hb
        clear hK K
        try simp only [Act.put, List.setIfInBounds_toArray, List.set_cons_zero, List.set_cons_succ]
        refine wpAnyH_ready (rs := [5]) (by kernel_rfl) (by simp) ?_
        refine AllReadyH.cons rfl (fun K hK => ?_) AllReadyH.nil
        go_simp
        refine (HQR.out _ (N1.out.below hS1) (N2.out.below hS1) (E1.out.below hS1) (E2.out.below hS1)).mono ?_
        rintro e w' ⟨rfl, hb⟩
        try go_wp2_with fail
        refine hK.out _ _ ?hs47 (fun hS2 => ?_)
        case hs47 => exact bel_next hS1 hb
        clear hK K
        try simp only [Act.put, List.setIfInBounds_toArray, List.set_cons_zero, List.set_cons_succ]
        refine takeInH 6 48 ?v48 rfl rfl (by kernel_rfl) (by kernel_rfl) (by kernel_rfl) (fun _ _ _ h => h) (by kernel_rfl) hS2 ?hy48 ?_
        case hy48 => (intro W hW; clear hW; go_simp; try rfl)
        simp only [Act.put, List.setIfInBounds_toArray, List.set_cons_zero, List.set_cons_succ]
        refine takeInH 7 49 ?v49 rfl rfl (by kernel_rfl) (by kernel_rfl) (by kernel_rfl) (fun _ _ _ h => h) (by kernel_rfl) hS2 ?hy49 ?_
        case hy49 => (intro W hW; clear hW; go_simp; try rfl)
        simp only [Act.put, List.setIfInBounds_toArray, List.set_cons_zero, List.set_cons_succ]
        refine takeInH 8 50 ?v50 rfl rfl (by kernel_rfl) (by kernel_rfl) (by kernel_rfl) (fun _ _ _ h => h) (by kernel_rfl) hS2 ?hy50 ?_
        case hy50 => (intro W hW; have e0 := bcell hW e0; have e1 := bcell hW e1; have e2 := bcell hW e2; have e3 := bcell hW e3; have e4 := bcell hW f0; have e5 := bcell hW f1; have e6 := bcell hW f2; have e7 := bcell hW f3; clear hW; go_simp; try rfl)
        simp only [Act.put, List.setIfInBounds_toArray, List.set_cons_zero, List.set_cons_succ]
        refine takeInH 9 51 ?v51 rfl rfl (by kernel_rfl) (by kernel_rfl) (by kernel_rfl) (fun _ _ _ h => h) (by kernel_rfl) hS2 ?hy51 ?_
        case hy51 => (intro W hW; have e0 := bcell hW e0; have e1 := bcell hW e1; have e2 := bcell hW e2; have e3 := bcell hW e3; have e4 := bcell hW f0; have e5 := bcell hW f1; have e6 := bcell hW f2; have e7 := bcell hW f3; clear hW; go_simp; try rfl)
        simp only [Act.put, List.setIfInBounds_toArray, List.set_cons_zero, List.set_cons_succ]
        refine wpAnyH_ready (rs := [10]) (by kernel_rfl) (by simp) ?_
        refine AllReadyH.cons rfl (fun K hK => ?_) AllReadyH.nil
        go_simp
        refine (HQS.out _ (N1.out.below hS2) (E1.out.below hS2)).mono ?_
        rintro e w' ⟨rfl, hb⟩
        try go_wp2_with fail
        refine hK.out _ _ ?hs52 (fun hS3 => ?_)
        case hs52 => exact bel_next hS2 hb
        clear hK K
        try simp only [Act.put, List.setIfInBounds_toArray, List.set_cons_zero, List.set_cons_succ]
        refine takeInH 11 53 ?v53 rfl rfl (by kernel_rfl) (by kernel_rfl) (by kernel_rfl) (fun _ _ _ h => h) (by kernel_rfl) hS3 ?hy53 ?_
        case hy53 => (intro W hW; clear hW; go_simp; try rfl)
        simp only [Act.put, List.setIfInBounds_toArray, List.set_cons_zero, List.set_cons_succ]
        refine takeInH 12 54 ?v54 rfl rfl (by kernel_rfl) (by kernel_rfl) (by kernel_rfl) (fun _ _ _ h => h) (by kernel_rfl) hS3 ?hy54 ?_
        case hy54 => (intro W hW; clear hW; go_simp; try rfl)
        simp only [Act.put, List.setIfInBounds_toArray, List.set_cons_zero, List.set_cons_succ]
        refine wpAnyH_done (by kernel_rfl) ?_ _
        replace N1 := hide (N1.out.below hS3)
        replace E1 := hide (E1.out.below hS3)
        replace X1 := hide (X1.out.below hS3)
        replace X2 := hide (X2.out.below hS3)
        replace HB := hide (bel_next HB.out hS3)
        replace HBS := hide (HBS.out.below hS3)
        clear e0 e1 e2 e3 f0 f1 f2 f3 HQE N2 E2
        clear hS0 hS1 hS2 hS3
        have e0 := X1.out.cell 0 _ rfl
        have e1 := X1.out.cell 1 _ rfl
        have e2 := X1.out.cell 2 _ rfl
        have e3 := X1.out.cell 3 _ rfl
        go_wp2_with (first
          | (go_at_call 15; refine (HMR.out _ N1.out E1.out).mono ?_; rintro e u10 ⟨rfl, hb⟩; replace HBS := hide (HBS.out.below hb); replace N1 := hide (N1.out.below hb); replace E1 := hide (E1.out.below hb); replace HB := hide (bel_next HB.out hb); replace X1 := hide (X1.out.below hb); clear hb e0 e1 e2 e3; have e0 := X1.out.cell 0 _ rfl; have e1 := X1.out.cell 1 _ rfl; have e2 := X1.out.cell 2 _ rfl; have e3 := X1.out.cell 3 _ rfl)
          | (go_at_call 17; refine Stop.at ?_))
        unfold Stop
        refine (GetE_any p6 _ c6 _ u10 HBS.out HCS.out).mono ?_
        rintro e u11 ⟨(⟨hg, _⟩ | ⟨x, y, pg, ng, cg, ph, nh, ch, cc, fs, hg, rfl, hns, hcg, hes, hch⟩), hb⟩
        · rw [HRD.out] at hg
          cases hg
        rw [HRD.out] at hg
        simp only [Option.some.injEq, Prod.mk.injEq] at hg
        obtain ⟨⟨rfl, rfl⟩, rfl, rfl⟩ := hg
        replace HBS := hide ((HBS.out.below hb).alloc (bxE r s pg ng cg ph nh ch))
        replace N1 := hide ((N1.out.below hb).alloc (bxE r s pg ng cg ph nh ch))
        replace E1 := hide ((E1.out.below hb).alloc (bxE r s pg ng cg ph nh ch))
        replace X1 := hide ((X1.out.below hb).alloc (bxE r s pg ng cg ph nh ch))
        replace HB := hide (bel_next (bel_next HB.out hb) (bel1 u11 (bxE r s pg ng cg ph nh ch)))
        have X3 := hide (BX.new u11 _ rfl #[.int .i64 r, .int .i64 s, .slice pg ng cg, .slice ph nh ch] 28)
        have N3 := hide (hns.alloc (bxE r s pg ng cg ph nh ch))
        have E3 := hide (hes.alloc (bxE r s pg ng cg ph nh ch))
        clear hb hns hcg hes hch e0 e1 e2 e3
        have e0 := X1.out.cell 0 _ rfl
        have e1 := X1.out.cell 1 _ rfl
        have e2 := X1.out.cell 2 _ rfl
        have e3 := X1.out.cell 3 _ rfl
        have HQG := hide (fun W (h1 : NS W pg ng c) (h2 : NS W pa na c) (h3 : ES W ph nh l) (h4 : ES W pe k l) => SameR_evt r s pg ng cg ph nh ch r s pa na ca pe k ce c c l l W h1 h2 h3 h4)
        rw [sameB_self] at HQG
        generalize hbl : (putE ((r, s), c, l)).length = bl at *
        go_wp2_with (first
          | (go_at_call 16; refine (HCK.out _ N1.out E1.out).mono ?_; rintro e u12 ⟨rfl, hb⟩; replace HBS := hide (HBS.out.below hb); replace X3 := hide (X3.out.below hb); replace N3 := hide (N3.out.below hb); replace E3 := hide (E3.out.below hb); replace N1 := hide (N1.out.below hb); replace E1 := hide (E1.out.below hb); replace HB := hide (bel_next HB.out hb); replace X1 := hide (X1.out.below hb); clear hb e0 e1 e2 e3; have e0 := X1.out.cell 0 _ rfl; have e1 := X1.out.cell 1 _ rfl; have e2 := X1.out.cell 2 _ rfl; have e3 := X1.out.cell 3 _ rfl)
          | (go_at_call 19; refine Stop.at ?_))
        unfold Stop
        refine (HPR.out _ N1.out E1.out).mono ?_
        rintro e u13 ⟨vr, rfl, hO, hb⟩
        obtain ⟨p7, c7, hv7, hb7, hc7⟩ := hO.open HBP.out
        rw [hbl] at hv7 hb7
        subst hv7
        replace HBS := hide (HBS.out.below hb)
        replace X3 := hide (X3.out.below hb)
        replace N3 := hide (N3.out.below hb)
        replace E3 := hide (E3.out.below hb)
        replace N1 := hide (N1.out.below hb)
        replace E1 := hide (E1.out.below hb)
        replace HB := hide (bel_next HB.out hb)
        replace X1 := hide (X1.out.below hb)
        clear hb e0 e1 e2 e3
        have e0 := X1.out.cell 0 _ rfl
        have e1 := X1.out.cell 1 _ rfl
        have e2 := X1.out.cell 2 _ rfl
        have e3 := X1.out.cell 3 _ rfl
        have HEQ := hide (bytes_as p6 p7 bl c6 bl c7 _ _ u13 true (by simp) HBS.out hb7)
        clear hO hb7 hc7
        have d0 := X3.out.cell 0 _ rfl
        have d1 := X3.out.cell 1 _ rfl
        have d2 := X3.out.cell 2 _ rfl
        have d3 := X3.out.cell 3 _ rfl
        go_wp2_with (first
          | (go_at_call 18; refine HEQ.out.mono ?_; rintro e u14 ⟨rfl, hb⟩; replace X3 := hide (X3.out.below hb); replace N3 := hide (N3.out.below hb); replace E3 := hide (E3.out.below hb); clear d0 d1 d2 d3; replace N1 := hide (N1.out.below hb); replace E1 := hide (E1.out.below hb); replace HB := hide (bel_next HB.out hb); replace X1 := hide (X1.out.below hb); clear hb e0 e1 e2 e3; have e0 := X1.out.cell 0 _ rfl; have e1 := X1.out.cell 1 _ rfl; have e2 := X1.out.cell 2 _ rfl; have e3 := X1.out.cell 3 _ rfl; have d0 := X3.out.cell 0 _ rfl; have d1 := X3.out.cell 1 _ rfl; have d2 := X3.out.cell 2 _ rfl; have d3 := X3.out.cell 3 _ rfl)
          | (go_at_call 14; refine (HQG.out _ N3.out N1.out E3.out E1.out).mono ?_; rintro e u15 ⟨rfl, hb⟩; have HB5 := hide (bel_next HB.out hb); clear hb)
          | (go_at_call 9; refine (HAW.out _).mono ?_; rintro e u16 ⟨rfl, hb⟩))
        go_ret
        exact ⟨rfl, bel_next HB5.out hb⟩

/-! ### The row's step -/
set_option maxRecDepth 100000 in
theorem lifted (os : Os) (started : os.Started) (H : Type) (enc : TypeId × Value → H) :
    ReturnsInHanded {} Try.checked os 3 .any (Rows.eventPutsSpec.pre6 enc Try.prog Try.f3 Rows.eventPutsRow.domain false) (Rows.eventPutsSpec.post enc Try.prog Try.f3 false true false false) := by
  refine returnsInHanded_of_change_sized (C := Try.checked) own started (by kernel_rfl) Try.func3
    (ChangeSpec.witness6 (enc := enc) (C := Try.checked) false ⟨#[], #[.agg #[.int .i64 0, .int .i64 0, .slice none 0 0, .slice none 0 0], .agg #[.int .i64 0, .int .i64 0, .slice none 0 0, .slice none 0 0]], []⟩ 8 (by kernel_rfl) (by kernel_rfl) (by kernel_rfl) (by kernel_rfl)) ?_
  intro W base args ds gs before hval0 hW hcnd hz0 _
  have hval : ∀ (j : Nat) t v, Try.f3.params[j]? = some t → args[j]? = some v → Value.okWide Try.prog W .any base t v := hval0
  have hz : (DataW.weightsEach Try.prog (Try.f3.params.toList ++ Rows.eventPutsSpec.plain.varTypes Try.prog) (ds ++ gs)).all (· ≤ reachBytes) = true := hz0
  have hW' := hW
  obtain ⟨p, q, hA0, hV, rfl, hfz, hnd⟩ := hW
  have hA : DataW.TrodAll enc Try.prog W 0 (fun _ => true) true Try.f3.params.toList args.toList ds p := hA0
  rw [Try.params3] at hA hval hz
  obtain ⟨v0, vs0, d0, ds0, p0, q0, hargs, rfl, rfl, h0, r0⟩ := trodAll_cons hA
  obtain ⟨v1, vs1, d1, ds1, p1, q1, rfl, rfl, rfl, h1, r1⟩ := trodAll_cons r0
  obtain ⟨rfl, rfl, rfl⟩ := trodAll_nil r1
  obtain rfl : args = #[v0, v1] := by cases args; simp_all
  obtain ⟨rfl, rfl⟩ := trodVars_none hV
  have k0 := h0
  have lt0 : ∀ x ∈ p0, x.block < W.heap.size := by obtain ⟨m, hm⟩ := k0; exact DataW.trod_lt m _ _ _ hm
  have w0 : InE W v0 := in_event (hval 0 28 v0 rfl rfl) h0 (fun n hn => by have := List.all_eq_true.1 hz n (DataW.weights_mem_each (j := 0) (t := 28) rfl rfl n hn); simpa using this)
  have k1 := h1
  have lt1 : ∀ x ∈ p1, x.block < W.heap.size := by obtain ⟨m, hm⟩ := k1; exact DataW.trod_lt m _ _ _ hm
  have w1 : InE W v1 := in_event (hval 1 28 v1 rfl rfl) h1 (fun n hn => by have := List.all_eq_true.1 hz n (DataW.weights_mem_each (j := 1) (t := 28) rfl rfl n hn); simpa using this)
  clear hA0 hval0 hz0
  refine (walk v0 v1 W w0 w1).mono fun e W' ⟨he, bel⟩ => ?_
  subst he
  exact ⟨_, rfl, _, _, _, [], _, [], hW', trodAll_mk1 (shut_bool Try.underlying4 _), (trodAll_cons_mk (Below.trod laidOut (by kernel_rfl) (of_decide_eq_true (by kernel_rfl)) k0 bel lt0) (trodAll_cons_mk (Below.trod laidOut (by kernel_rfl) (of_decide_eq_true (by kernel_rfl)) k1 bel lt1) trodAll_mk0)), rfl, bel.frame _, fun h => by cases h⟩

theorem over : Rows.eventPutsRow.holds Try.pinned (OpenSpec.ofChange Rows.eventPutsSpec) :=
  OpenClaim.holds_of_wide 3 Try.f3 rfl rfl rfl rfl rfl rfl rfl ⟨rfl, rfl, rfl, rfl, rfl⟩ rfl rfl rfl rfl rfl (by kernel_rfl) Try.func3 (by kernel_rfl)
    (of_decide_eq_true (by kernel_rfl)) (by unfold Func.isWrapper; first | (rw [if_pos (by decide +kernel)]; kernel_rfl) | (rw [if_neg (by decide +kernel)]; exact ⟨rfl, rfl⟩))
    (fun os started H enc _ => lifted os started H enc)
end Go.Proofs.Ytooggheoaglbeaa.eventPuts
namespace Go.Proofs.Ytooggheoaglbeaa
theorem eventPuts_holds : Rows.EventPutsSaid := eventPuts.over
end Go.Proofs.Ytooggheoaglbeaa

