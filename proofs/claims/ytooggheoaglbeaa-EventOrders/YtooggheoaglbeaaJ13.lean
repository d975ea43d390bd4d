/- Texts of this claim, joined: SRef1. -/
import Derived.Test.YtooggheoaglbeaaJ10
import Derived.Test.YtooggheoaglbeaaJ12
import Derived.Test.YtooggheoaglbeaaJ3
/- The document's 'less', 'find' and 'All'. -/
namespace Go.Proofs.Ytooggheoaglbeaa
open Go.RowKit
set_option linter.unusedVariables false
set_option maxHeartbeats 2000000 in
/-- The document's 'less'. -/
theorem lessR_any (r s : Int) (pa : Option Addr) (na ca : Nat) (pe : Option Addr) (ne ce : Nat) (r' s' : Int) (pb : Option Addr) (nb cb : Nat) (pf : Option Addr) (nf cf : Nat) (c c' : List Int) (l m : List Eff) (w : World) (hN : NS w pa na c) (hN' : NS w pb nb c') (b : Bool) (hb : b = ltE ((r, s), c, l) ((r', s'), c', m)) :
    Calls Try.prog 56 #[.agg #[.int .i64 r, .int .i64 s, .slice pa na ca, .slice pe ne ce], .agg #[.int .i64 r', .int .i64 s', .slice pb nb cb, .slice pf nf cf]] w fun e w' => e = .returned (.bool b) ∧ Below w.heap.size w w' := by
  have HM1 := hide (fun W (h : NS W pa na c) => sum_ref pa na ca c W h)
  have HM2 := hide (fun W (h : NS W pb nb c') => sum_ref pb nb cb c' W h)
  have HL := hide (fun W => LessR_any r s r' s' W)
  have HU := hide (bel2 w (bxE r s pa na ca pe ne ce) (bxE r' s' pb nb cb pf nf cf))
  have N1 := hide ((hN.alloc (bxE r s pa na ca pe ne ce)).alloc (bxE r' s' pb nb cb pf nf cf))
  have N2 := hide ((hN'.alloc (bxE r s pa na ca pe ne ce)).alloc (bxE r' s' pb nb cb pf nf cf))
  have X1 := (BX.new w _ rfl #[.int .i64 r, .int .i64 s, .slice pa na ca, .slice pe ne ce] 28).alloc (bxE r' s' pb nb cb pf nf cf)
  have X2 := BX.new (w.alloc (bxE r s pa na ca pe ne ce)) (w.heap.size + 1) (by simp) #[.int .i64 r', .int .i64 s', .slice pb nb cb, .slice pf nf cf] 28
  have c0 := X1.cell 0 _ rfl
  have c1 := X1.cell 1 _ rfl
  have c2 := X1.cell 2 _ rfl
  have d0 := X2.cell 0 _ rfl
  have d1 := X2.cell 1 _ rfl
  have d2 := X2.cell 2 _ rfl
  clear hN hN' X1 X2
  by_cases hq : sumL c = sumL c'
  · have HE : Hid (lessD (r, s) (r', s') = b) := by
      unfold Hid
      rw [hb, Bool.eq_iff_iff, ltE_iff, lessD_iff]
      simp only []
      omega
    rw [hq] at HM1
    clear hb hq
    go_enter Try.func56, Try.ntmps56
    go_wp2
    generalize hu : (w.alloc (bxE r s pa na ca pe ne ce)).alloc (bxE r' s' pb nb cb pf nf cf) = u at *
    clear hu
    generalize sumL c' = z at HM1 HM2
    refine wp_region_held_drew (S := fun W => Below u.heap.size u W) (by kernel_rfl) ((Below.refl _ u).drew) (fun hS0 => ?_)
    refine takeInH 0 7 ?v1 rfl rfl (by kernel_rfl) (by kernel_rfl) (by kernel_rfl) (fun _ _ _ h => h) (by kernel_rfl) hS0 ?hy1 ?_
    case hy1 => (intro W hW; clear hW; go_simp; try rfl)
    simp only [Act.put, List.setIfInBounds_toArray, List.set_cons_zero, List.set_cons_succ]
    refine takeInH 1 8 ?v2 rfl rfl (by kernel_rfl) (by kernel_rfl) (by kernel_rfl) (fun _ _ _ h => h) (by kernel_rfl) hS0 ?hy2 ?_
    case hy2 => (intro W hW; have e0 := bcell hW c0; have e1 := bcell hW c1; have e2 := bcell hW c2; have e3 := bcell hW d0; have e4 := bcell hW d1; have e5 := bcell hW d2; clear hW; go_simp; try rfl)
    simp only [Act.put, List.setIfInBounds_toArray, List.set_cons_zero, List.set_cons_succ]
    refine takeInH 3 10 ?v3 rfl rfl (by kernel_rfl) (by kernel_rfl) (by kernel_rfl) (fun _ _ _ h => h) (by kernel_rfl) hS0 ?hy3 ?_
    case hy3 => (intro W hW; clear hW; go_simp; try rfl)
    simp only [Act.put, List.setIfInBounds_toArray, List.set_cons_zero, List.set_cons_succ]
    refine takeInH 4 11 ?v4 rfl rfl (by kernel_rfl) (by kernel_rfl) (by kernel_rfl) (fun _ _ _ h => h) (by kernel_rfl) hS0 ?hy4 ?_
    case hy4 => (intro W hW; have e0 := bcell hW c0; have e1 := bcell hW c1; have e2 := bcell hW c2; have e3 := bcell hW d0; have e4 := bcell hW d1; have e5 := bcell hW d2; clear hW; go_simp; try rfl)
    simp only [Act.put, List.setIfInBounds_toArray, List.set_cons_zero, List.set_cons_succ]
    refine wpAnyH_ready (rs := [2]) (by kernel_rfl) (by simp) ?_
    refine AllReadyH.cons rfl (fun K hK => ?_) AllReadyH.nil
    go_simp
    refine (HM1.out _ (N1.out.below hS0)).mono ?_
    rintro e w' ⟨rfl, hw⟩
    replace hw := hw.symm
    subst hw
    try go_wp2_with fail
    refine hK.out _ _ ?hs5 (fun hS1 => ?_)
    case hs5 => exact hS0
    clear hK K
    try simp only [Act.put, List.setIfInBounds_toArray, List.set_cons_zero, List.set_cons_succ]
    refine wpAnyH_ready (rs := [5]) (by kernel_rfl) (by simp) ?_
    refine AllReadyH.cons rfl (fun K hK => ?_) AllReadyH.nil
    go_simp
    refine (HM2.out _ (N2.out.below hS1)).mono ?_
    rintro e w' ⟨rfl, hw⟩
    replace hw := hw.symm
    subst hw
    try go_wp2_with fail
    refine hK.out _ _ ?hs6 (fun hS2 => ?_)
    case hs6 => exact hS1
    clear hK K
    try simp only [Act.put, List.setIfInBounds_toArray, List.set_cons_zero, List.set_cons_succ]
    refine takeInH 6 5 ?v7 rfl rfl (by kernel_rfl) (by kernel_rfl) (by kernel_rfl) (fun _ _ _ h => h) (by kernel_rfl) hS2 ?hy7 ?_
    case hy7 => (intro W hW; clear hW; go_simp; try rfl)
    simp only [Act.put, List.setIfInBounds_toArray, List.set_cons_zero, List.set_cons_succ]
    refine takeInH 7 6 ?v8 rfl rfl (by kernel_rfl) (by kernel_rfl) (by kernel_rfl) (fun _ _ _ h => h) (by kernel_rfl) hS2 ?hy8 ?_
    case hy8 => (intro W hW; clear hW; go_simp; try rfl)
    simp only [Act.put, List.setIfInBounds_toArray, List.set_cons_zero, List.set_cons_succ]
    refine wpAnyH_done (by kernel_rfl) ?_ _
    replace c0 := bcell hS2 c0
    replace c1 := bcell hS2 c1
    replace d0 := bcell hS2 d0
    replace d1 := bcell hS2 d1
    go_wp2_with (go_at_call 81; refine (HL.out _).mono ?_; rintro e w3 ⟨rfl, hg⟩)
    go_ret
    exact ⟨retB HE.out, bel_next (bel_next HU.out hS2) hg.bel⟩
  · have HE : Hid (decide (sumL c < sumL c') = b) := by
      unfold Hid
      rw [hb, Bool.eq_iff_iff, ltE_iff, decide_eq_true_iff]
      simp only []
      omega
    have hne : ((sumL c != sumL c') = true) := by rw [bne_iff_ne]; exact hq
    clear hb
    go_enter Try.func56, Try.ntmps56
    go_wp2
    generalize hu : (w.alloc (bxE r s pa na ca pe ne ce)).alloc (bxE r' s' pb nb cb pf nf cf) = u at *
    clear hu
    generalize sumL c = z1 at HM1 HE hne hq
    generalize sumL c' = z2 at HM2 HE hne hq
    refine wp_region_held_drew (S := fun W => Below u.heap.size u W) (by kernel_rfl) ((Below.refl _ u).drew) (fun hS0 => ?_)
    refine takeInH 0 7 ?v9 rfl rfl (by kernel_rfl) (by kernel_rfl) (by kernel_rfl) (fun _ _ _ h => h) (by kernel_rfl) hS0 ?hy9 ?_
    case hy9 => (intro W hW; clear hW; go_simp; try rfl)
    simp only [Act.put, List.setIfInBounds_toArray, List.set_cons_zero, List.set_cons_succ]
    refine takeInH 1 8 ?v10 rfl rfl (by kernel_rfl) (by kernel_rfl) (by kernel_rfl) (fun _ _ _ h => h) (by kernel_rfl) hS0 ?hy10 ?_
    case hy10 => (intro W hW; have e0 := bcell hW c0; have e1 := bcell hW c1; have e2 := bcell hW c2; have e3 := bcell hW d0; have e4 := bcell hW d1; have e5 := bcell hW d2; clear hW; go_simp; try rfl)
    simp only [Act.put, List.setIfInBounds_toArray, List.set_cons_zero, List.set_cons_succ]
    refine takeInH 3 10 ?v11 rfl rfl (by kernel_rfl) (by kernel_rfl) (by kernel_rfl) (fun _ _ _ h => h) (by kernel_rfl) hS0 ?hy11 ?_
    case hy11 => (intro W hW; clear hW; go_simp; try rfl)
    simp only [Act.put, List.setIfInBounds_toArray, List.set_cons_zero, List.set_cons_succ]
    refine takeInH 4 11 ?v12 rfl rfl (by kernel_rfl) (by kernel_rfl) (by kernel_rfl) (fun _ _ _ h => h) (by kernel_rfl) hS0 ?hy12 ?_
    case hy12 => (intro W hW; have e0 := bcell hW c0; have e1 := bcell hW c1; have e2 := bcell hW c2; have e3 := bcell hW d0; have e4 := bcell hW d1; have e5 := bcell hW d2; clear hW; go_simp; try rfl)
    simp only [Act.put, List.setIfInBounds_toArray, List.set_cons_zero, List.set_cons_succ]
    refine wpAnyH_ready (rs := [2]) (by kernel_rfl) (by simp) ?_
    refine AllReadyH.cons rfl (fun K hK => ?_) AllReadyH.nil
    go_simp
    refine (HM1.out _ (N1.out.below hS0)).mono ?_
    rintro e w' ⟨rfl, hw⟩
    replace hw := hw.symm
    subst hw
    try go_wp2_with fail
    refine hK.out _ _ ?hs13 (fun hS1 => ?_)
    case hs13 => exact hS0
    clear hK K
    try simp only [Act.put, List.setIfInBounds_toArray, List.set_cons_zero, List.set_cons_succ]
    refine wpAnyH_ready (rs := [5]) (by kernel_rfl) (by simp) ?_
    refine AllReadyH.cons rfl (fun K hK => ?_) AllReadyH.nil
    go_simp
    refine (HM2.out _ (N2.out.below hS1)).mono ?_
    rintro e w' ⟨rfl, hw⟩
    replace hw := hw.symm
    subst hw
    try go_wp2_with fail
    refine hK.out _ _ ?hs14 (fun hS2 => ?_)
    case hs14 => exact hS1
    clear hK K
    try simp only [Act.put, List.setIfInBounds_toArray, List.set_cons_zero, List.set_cons_succ]
    refine takeInH 6 5 ?v15 rfl rfl (by kernel_rfl) (by kernel_rfl) (by kernel_rfl) (fun _ _ _ h => h) (by kernel_rfl) hS2 ?hy15 ?_
    case hy15 => (intro W hW; clear hW; go_simp; try rfl)
    simp only [Act.put, List.setIfInBounds_toArray, List.set_cons_zero, List.set_cons_succ]
    refine takeInH 7 6 ?v16 rfl rfl (by kernel_rfl) (by kernel_rfl) (by kernel_rfl) (fun _ _ _ h => h) (by kernel_rfl) hS2 ?hy16 ?_
    case hy16 => (intro W hW; clear hW; go_simp; try rfl)
    simp only [Act.put, List.setIfInBounds_toArray, List.set_cons_zero, List.set_cons_succ]
    refine wpAnyH_done (by kernel_rfl) ?_ _
    go_wp2
    go_ret
    exact ⟨retB HE.out, bel_next HU.out hS2⟩
/-- Is an event of a dot in a list? -/
def findB (es : List Evt) (d : Dot) : Bool := es.any (fun e => decide (e.1 = d))
theorem findB_iff {es : List Evt} {d : Dot} : findB es d = true ↔ ∃ e ∈ es, e.1 = d := by simp [findB]
theorem findB_step {es : List Evt} {d : Dot} {k : Nat} {x : Evt} (hx : es[k]? = some x) (hn : x.1 ≠ d) : findB (es.drop k) d = findB (es.drop (k + 1)) d := by
  obtain ⟨hk, rfl⟩ := List.getElem?_eq_some_iff.1 hx
  rw [List.drop_eq_getElem_cons hk]
  unfold findB
  rw [List.any_cons, decide_eq_false hn, Bool.false_or]
theorem findB_yes {es : List Evt} {d : Dot} {k : Nat} {x : Evt} (hx : es[k]? = some x) (hn : x.1 = d) : findB (es.drop k) d = true := by
  obtain ⟨hk, rfl⟩ := List.getElem?_eq_some_iff.1 hx
  rw [List.drop_eq_getElem_cons hk]
  unfold findB
  rw [List.any_cons, decide_eq_true hn, Bool.true_or]
set_option maxHeartbeats 2000000 in
/-- The document's 'find'. -/
theorem find_any (a : Option Addr) (n cap : Nat) (es : List Evt) (p q : Int) (w : World) (hE : EVS w a n es) (b : Bool) (hb : b = findB es (p, q)) :
    Calls Try.prog 59 #[.slice a n cap, .agg #[.int .i64 p, .int .i64 q]] w fun e w' => e = .returned (.bool b) ∧ Below w.heap.size w w' := by
  have HV := hide (hE.alloc (bxD p q))
  have hlen := hide hE.len
  have hmx := hE.max
  unfold maxLen at hmx
  have q0' : (w.alloc (bxD p q)).cell? ⟨w.heap.size, 0, none⟩ = some (.int .i64 p) := cell_new w _ _ _ rfl 0 _ rfl
  have q1' : (w.alloc (bxD p q)).cell? ⟨w.heap.size, 1, none⟩ = some (.int .i64 q) := cell_new w _ _ _ rfl 1 _ rfl
  have HQ0 := hide q0'
  have HQ1 := hide q1'
  clear hE q0' q1'
  go_enter Try.func59, Try.ntmps59
  go_wp2
  go_loopw [5] (fun i wr => ∃ k : Nat, k ≤ n ∧ i = .int .i64 k ∧ Hid (b = findB (es.drop k) (p, q)) ∧ Hid (Below (w.alloc (bxD p q)).heap.size (w.alloc (bxD p q)) wr)) (fun i _ => n - (intOf i).toNat)
  case atStart => exact ⟨0, by omega, rfl, hb, Below.refl _ _⟩
  case round =>
    clear hb
    obtain ⟨k, hk, rfl, HJ, hB⟩ := hrel
    by_cases hlt : k < n
    · obtain ⟨bb, off, rfl⟩ := HV.out.addr (by omega)
      obtain ⟨r, s, pa, na, ca, pe, ne, ce, c, fs, hx, x0, x1, x2, x3, hns, hca, hes, hce⟩ := HV.out.at k hlt
      replace x0 := bcell hB.out x0
      replace x1 := bcell hB.out x1
      have q0 := bcell hB.out HQ0.out
      have q1 := bcell hB.out HQ1.out
      clear x2 x3 hns hca hes hce
      by_cases h1 : r = p
      · by_cases h2 : s = q
        · have HE : Hid (true = b) := by unfold Hid; rw [HJ.out, findB_yes hx (by simp only []; rw [h1, h2])]
          subst h1 h2
          clear hx
          go_wp2
          refine wp_region_held_drew (S := fun W => Below wr.heap.size wr W) (by kernel_rfl) ((Below.refl _ wr).drew) (fun hS0 => ?_)
          refine takeInH 0 12 ?v17 rfl rfl (by kernel_rfl) (by kernel_rfl) (by kernel_rfl) (fun _ _ _ h => h) (by kernel_rfl) hS0 ?hy17 ?_
          case hy17 => (intro W hW; clear hW; go_simp; try rfl)
          simp only [Act.put, List.setIfInBounds_toArray, List.set_cons_zero, List.set_cons_succ]
          refine takeInH 1 13 ?v18 rfl rfl (by kernel_rfl) (by kernel_rfl) (by kernel_rfl) (fun _ _ _ h => h) (by kernel_rfl) hS0 ?hy18 ?_
          case hy18 => (intro W hW; clear hW; go_simp; try rfl)
          simp only [Act.put, List.setIfInBounds_toArray, List.set_cons_zero, List.set_cons_succ]
          refine takeInH 2 14 ?v19 rfl rfl (by kernel_rfl) (by kernel_rfl) (by kernel_rfl) (fun _ _ _ h => h) (by kernel_rfl) hS0 ?hy19 ?_
          case hy19 => (intro W hW; clear hW; go_simp; try rfl)
          simp only [Act.put, List.setIfInBounds_toArray, List.set_cons_zero, List.set_cons_succ]
          refine takeInH 3 15 ?v20 rfl rfl (by kernel_rfl) (by kernel_rfl) (by kernel_rfl) (fun _ _ _ h => h) (by kernel_rfl) hS0 ?hy20 ?_
          case hy20 => (intro W hW; clear hW; go_simp; try rfl)
          simp only [Act.put, List.setIfInBounds_toArray, List.set_cons_zero, List.set_cons_succ]
          refine takeInH 4 16 ?v21 rfl rfl (by kernel_rfl) (by kernel_rfl) (by kernel_rfl) (fun _ _ _ h => h) (by kernel_rfl) hS0 ?hy21 ?_
          case hy21 => (intro W hW; have e0 := bcell hW x0; have e1 := bcell hW x1; have e2 := bcell hW q0; have e3 := bcell hW q1; clear hW; go_simp; try rfl)
          simp only [Act.put, List.setIfInBounds_toArray, List.set_cons_zero, List.set_cons_succ]
          refine takeInH 5 17 ?v22 rfl rfl (by kernel_rfl) (by kernel_rfl) (by kernel_rfl) (fun _ _ _ h => h) (by kernel_rfl) hS0 ?hy22 ?_
          case hy22 => (intro W hW; have e0 := bcell hW x0; have e1 := bcell hW x1; have e2 := bcell hW q0; have e3 := bcell hW q1; clear hW; go_simp; try rfl)
          simp only [Act.put, List.setIfInBounds_toArray, List.set_cons_zero, List.set_cons_succ]
          refine takeInH 6 18 ?v23 rfl rfl (by kernel_rfl) (by kernel_rfl) (by kernel_rfl) (fun _ _ _ h => h) (by kernel_rfl) hS0 ?hy23 ?_
          case hy23 => (intro W hW; clear hW; go_simp; try rfl)
          simp only [Act.put, List.setIfInBounds_toArray, List.set_cons_zero, List.set_cons_succ]
          refine wpAnyH_done (by kernel_rfl) ?_ _
          go_wp2
          go_ret
          exact ⟨retB HE.out, bel_next (bel1 w _) (bel_next hB.out hS0)⟩
        · have HJ2 : Hid (b = findB (es.drop (k + 1)) (p, q)) := by unfold Hid; rw [HJ.out, findB_step hx (fun h => h2 (congrArg Prod.snd h))]
          subst h1
          clear hx
          go_wp2
          refine wp_region_held_drew (S := fun W => Below wr.heap.size wr W) (by kernel_rfl) ((Below.refl _ wr).drew) (fun hS0 => ?_)
          refine takeInH 0 12 ?v24 rfl rfl (by kernel_rfl) (by kernel_rfl) (by kernel_rfl) (fun _ _ _ h => h) (by kernel_rfl) hS0 ?hy24 ?_
          case hy24 => (intro W hW; clear hW; go_simp; try rfl)
          simp only [Act.put, List.setIfInBounds_toArray, List.set_cons_zero, List.set_cons_succ]
          refine takeInH 1 13 ?v25 rfl rfl (by kernel_rfl) (by kernel_rfl) (by kernel_rfl) (fun _ _ _ h => h) (by kernel_rfl) hS0 ?hy25 ?_
          case hy25 => (intro W hW; clear hW; go_simp; try rfl)
          simp only [Act.put, List.setIfInBounds_toArray, List.set_cons_zero, List.set_cons_succ]
          refine takeInH 2 14 ?v26 rfl rfl (by kernel_rfl) (by kernel_rfl) (by kernel_rfl) (fun _ _ _ h => h) (by kernel_rfl) hS0 ?hy26 ?_
          case hy26 => (intro W hW; clear hW; go_simp; try rfl)
          simp only [Act.put, List.setIfInBounds_toArray, List.set_cons_zero, List.set_cons_succ]
          refine takeInH 3 15 ?v27 rfl rfl (by kernel_rfl) (by kernel_rfl) (by kernel_rfl) (fun _ _ _ h => h) (by kernel_rfl) hS0 ?hy27 ?_
          case hy27 => (intro W hW; clear hW; go_simp; try rfl)
          simp only [Act.put, List.setIfInBounds_toArray, List.set_cons_zero, List.set_cons_succ]
          refine takeInH 4 16 ?v28 rfl rfl (by kernel_rfl) (by kernel_rfl) (by kernel_rfl) (fun _ _ _ h => h) (by kernel_rfl) hS0 ?hy28 ?_
          case hy28 => (intro W hW; have e0 := bcell hW x0; have e1 := bcell hW x1; have e2 := bcell hW q0; have e3 := bcell hW q1; clear hW; go_simp; try rfl)
          simp only [Act.put, List.setIfInBounds_toArray, List.set_cons_zero, List.set_cons_succ]
          refine takeInH 5 17 ?v29 rfl rfl (by kernel_rfl) (by kernel_rfl) (by kernel_rfl) (fun _ _ _ h => h) (by kernel_rfl) hS0 ?hy29 ?_
          case hy29 => (intro W hW; have e0 := bcell hW x0; have e1 := bcell hW x1; have e2 := bcell hW q0; have e3 := bcell hW q1; clear hW; go_simp; try rfl)
          simp only [Act.put, List.setIfInBounds_toArray, List.set_cons_zero, List.set_cons_succ]
          refine takeInH 6 18 ?v30 rfl rfl (by kernel_rfl) (by kernel_rfl) (by kernel_rfl) (fun _ _ _ h => h) (by kernel_rfl) hS0 ?hy30 ?_
          case hy30 => (intro W hW; clear hW; go_simp; try rfl)
          simp only [Act.put, List.setIfInBounds_toArray, List.set_cons_zero, List.set_cons_succ]
          refine wpAnyH_done (by kernel_rfl) ?_ _
          go_wp2
          go_roundw
          case rel => exact ⟨k + 1, by omega, by go_num, HJ2, (show Hid _ from bel_next hB.out hS0)⟩
          case measure => simp [intOf]; omega
      · have HJ2 : Hid (b = findB (es.drop (k + 1)) (p, q)) := by unfold Hid; rw [HJ.out, findB_step hx (fun h => h1 (congrArg Prod.fst h))]
        clear hx
        go_wp2
        refine wp_region_held_drew (S := fun W => Below wr.heap.size wr W) (by kernel_rfl) ((Below.refl _ wr).drew) (fun hS0 => ?_)
        refine takeInH 0 12 ?v31 rfl rfl (by kernel_rfl) (by kernel_rfl) (by kernel_rfl) (fun _ _ _ h => h) (by kernel_rfl) hS0 ?hy31 ?_
        case hy31 => (intro W hW; clear hW; go_simp; try rfl)
        simp only [Act.put, List.setIfInBounds_toArray, List.set_cons_zero, List.set_cons_succ]
        refine takeInH 1 13 ?v32 rfl rfl (by kernel_rfl) (by kernel_rfl) (by kernel_rfl) (fun _ _ _ h => h) (by kernel_rfl) hS0 ?hy32 ?_
        case hy32 => (intro W hW; clear hW; go_simp; try rfl)
        simp only [Act.put, List.setIfInBounds_toArray, List.set_cons_zero, List.set_cons_succ]
        refine takeInH 2 14 ?v33 rfl rfl (by kernel_rfl) (by kernel_rfl) (by kernel_rfl) (fun _ _ _ h => h) (by kernel_rfl) hS0 ?hy33 ?_
        case hy33 => (intro W hW; clear hW; go_simp; try rfl)
        simp only [Act.put, List.setIfInBounds_toArray, List.set_cons_zero, List.set_cons_succ]
        refine takeInH 3 15 ?v34 rfl rfl (by kernel_rfl) (by kernel_rfl) (by kernel_rfl) (fun _ _ _ h => h) (by kernel_rfl) hS0 ?hy34 ?_
        case hy34 => (intro W hW; clear hW; go_simp; try rfl)
        simp only [Act.put, List.setIfInBounds_toArray, List.set_cons_zero, List.set_cons_succ]
        refine takeInH 4 16 ?v35 rfl rfl (by kernel_rfl) (by kernel_rfl) (by kernel_rfl) (fun _ _ _ h => h) (by kernel_rfl) hS0 ?hy35 ?_
        case hy35 => (intro W hW; have e0 := bcell hW x0; have e1 := bcell hW x1; have e2 := bcell hW q0; have e3 := bcell hW q1; clear hW; go_simp; try rfl)
        simp only [Act.put, List.setIfInBounds_toArray, List.set_cons_zero, List.set_cons_succ]
        refine takeInH 5 17 ?v36 rfl rfl (by kernel_rfl) (by kernel_rfl) (by kernel_rfl) (fun _ _ _ h => h) (by kernel_rfl) hS0 ?hy36 ?_
        case hy36 => (intro W hW; have e0 := bcell hW x0; have e1 := bcell hW x1; have e2 := bcell hW q0; have e3 := bcell hW q1; clear hW; go_simp; try rfl)
        simp only [Act.put, List.setIfInBounds_toArray, List.set_cons_zero, List.set_cons_succ]
        refine takeInH 6 18 ?v37 rfl rfl (by kernel_rfl) (by kernel_rfl) (by kernel_rfl) (fun _ _ _ h => h) (by kernel_rfl) hS0 ?hy37 ?_
        case hy37 => (intro W hW; clear hW; go_simp; try rfl)
        simp only [Act.put, List.setIfInBounds_toArray, List.set_cons_zero, List.set_cons_succ]
        refine wpAnyH_done (by kernel_rfl) ?_ _
        go_wp2
        go_roundw
        case rel => exact ⟨k + 1, by omega, by go_num, HJ2, (show Hid _ from bel_next hB.out hS0)⟩
        case measure => simp [intOf]; omega
    · have HE : Hid (false = b) := by
        unfold Hid
        rw [HJ.out, List.drop_eq_nil_of_le (by rw [hlen.out]; omega)]
        rfl
      have hkz : ¬ (k : Int) < (n : Int) := by omega
      go_wp2
      go_ret
      exact ⟨retB HE.out, bel_next (bel1 w (bxD p q)) hB.out⟩
set_option maxHeartbeats 2000000 in
/-- The document's 'All', of lists that are alike. -/
theorem All_same (a a' : Option Addr) (n cap cap' : Nat) (es : List Evt) (w : World) (hE : EVS w a n es) (hE' : EVS w a' n es) :
    Calls Try.prog 24 #[.slice a n cap, .slice a' n cap'] w fun e w' => e = .returned (.bool true) ∧ Below w.heap.size w w' := by
  have HV := hide hE
  have HW := hide hE'
  have hmx := hE.max
  unfold maxLen at hmx
  clear hE hE'
  go_enter Try.func24, Try.ntmps24
  go_wp2
  go_loopw [5] (fun i wr => ∃ k : Nat, k ≤ n ∧ i = .int .i64 k ∧ Hid (Below w.heap.size w wr)) (fun i _ => n - (intOf i).toNat)
  case atStart => exact ⟨0, by omega, rfl, Below.refl _ _⟩
  case round =>
    obtain ⟨k, hk, rfl, hB⟩ := hrel
    by_cases hlt : k < n
    · obtain ⟨b, off, rfl⟩ := HV.out.addr (by omega)
      obtain ⟨b', off', rfl⟩ := HW.out.addr (by omega)
      obtain ⟨r, s, pa, na, ca, pe, ne, ce, c, fs, hx, x0, x1, x2, x3, hnsx, hcax, hesx, hcex⟩ := HV.out.at k hlt
      replace x0 := bcell hB.out x0
      replace x1 := bcell hB.out x1
      replace x2 := bcell hB.out x2
      replace x3 := bcell hB.out x3
      obtain ⟨r', s', pb, nb, cb, pf, nf, cf, c', fs', hy, y0, y1, y2, y3, hnsy, hcay, hesy, hcey⟩ := HW.out.at k hlt
      replace y0 := bcell hB.out y0
      replace y1 := bcell hB.out y1
      replace y2 := bcell hB.out y2
      replace y3 := bcell hB.out y3
      rw [hx] at hy
      have he := Option.some.inj hy
      have N1 := hide (hnsx.below hB.out)
      have N2 := hide (hnsy.below hB.out)
      have E1 := hide (hesx.below hB.out)
      have E2 := hide (hesy.below hB.out)
      have hsm : sameB ((r, s), c, fs) ((r', s'), c', fs') = true := by
        rw [← he]
        exact sameB_iff.2 ⟨⟨rfl, rfl⟩, rfl, rfl⟩
      have HAA := hide (fun W (h1 : NS W pa na c) (h2 : NS W pb nb c') (h3 : ES W pe ne fs) (h4 : ES W pf nf fs') => SameR_evt r s pa na ca pe ne ce r' s' pb nb cb pf nf cf c c' fs fs' W h1 h2 h3 h4)
      rw [hsm] at HAA
      clear hnsx hcax hesx hcex hnsy hcay hesy hcey hx hy he hsm
      go_wp2
      refine wp_region_held_drew (S := fun W => Below wr.heap.size wr W) (by kernel_rfl) ((Below.refl _ wr).drew) (fun hS0 => ?_)
      refine takeInH 0 17 ?v38 rfl rfl (by kernel_rfl) (by kernel_rfl) (by kernel_rfl) (fun _ _ _ h => h) (by kernel_rfl) hS0 ?hy38 ?_
      case hy38 => (intro W hW; clear hW; go_simp; try rfl)
      simp only [Act.put, List.setIfInBounds_toArray, List.set_cons_zero, List.set_cons_succ]
      refine takeInH 1 18 ?v39 rfl rfl (by kernel_rfl) (by kernel_rfl) (by kernel_rfl) (fun _ _ _ h => h) (by kernel_rfl) hS0 ?hy39 ?_
      case hy39 => (intro W hW; clear hW; go_simp; try rfl)
      simp only [Act.put, List.setIfInBounds_toArray, List.set_cons_zero, List.set_cons_succ]
      refine takeInH 2 19 ?v40 rfl rfl (by kernel_rfl) (by kernel_rfl) (by kernel_rfl) (fun _ _ _ h => h) (by kernel_rfl) hS0 ?hy40 ?_
      case hy40 => (intro W hW; clear hW; go_simp; try rfl)
      simp only [Act.put, List.setIfInBounds_toArray, List.set_cons_zero, List.set_cons_succ]
      refine takeInH 3 20 ?v41 rfl rfl (by kernel_rfl) (by kernel_rfl) (by kernel_rfl) (fun _ _ _ h => h) (by kernel_rfl) hS0 ?hy41 ?_
      case hy41 => (intro W hW; have e0 := bcell hW x0; have e1 := bcell hW x1; have e2 := bcell hW x2; have e3 := bcell hW x3; have e4 := bcell hW y0; have e5 := bcell hW y1; have e6 := bcell hW y2; have e7 := bcell hW y3; clear hW; go_simp; try rfl)
      simp only [Act.put, List.setIfInBounds_toArray, List.set_cons_zero, List.set_cons_succ]
      refine takeInH 4 21 ?v42 rfl rfl (by kernel_rfl) (by kernel_rfl) (by kernel_rfl) (fun _ _ _ h => h) (by kernel_rfl) hS0 ?hy42 ?_
      case hy42 => (intro W hW; clear hW; go_simp; try rfl)
      simp only [Act.put, List.setIfInBounds_toArray, List.set_cons_zero, List.set_cons_succ]
      refine takeInH 5 22 ?v43 rfl rfl (by kernel_rfl) (by kernel_rfl) (by kernel_rfl) (fun _ _ _ h => h) (by kernel_rfl) hS0 ?hy43 ?_
      case hy43 => (intro W hW; clear hW; go_simp; try rfl)
      simp only [Act.put, List.setIfInBounds_toArray, List.set_cons_zero, List.set_cons_succ]
      refine takeInH 6 23 ?v44 rfl rfl (by kernel_rfl) (by kernel_rfl) (by kernel_rfl) (fun _ _ _ h => h) (by kernel_rfl) hS0 ?hy44 ?_
      case hy44 => (intro W hW; clear hW; go_simp; try rfl)
      simp only [Act.put, List.setIfInBounds_toArray, List.set_cons_zero, List.set_cons_succ]
      refine takeInH 7 24 ?v45 rfl rfl (by kernel_rfl) (by kernel_rfl) (by kernel_rfl) (fun _ _ _ h => h) (by kernel_rfl) hS0 ?hy45 ?_
      case hy45 => (intro W hW; have e0 := bcell hW x0; have e1 := bcell hW x1; have e2 := bcell hW x2; have e3 := bcell hW x3; have e4 := bcell hW y0; have e5 := bcell hW y1; have e6 := bcell hW y2; have e7 := bcell hW y3; clear hW; go_simp; try rfl)
      simp only [Act.put, List.setIfInBounds_toArray, List.set_cons_zero, List.set_cons_succ]
      refine wpAnyH_ready (rs := [8]) (by kernel_rfl) (by simp) ?_
      refine AllReadyH.cons rfl (fun K hK => ?_) AllReadyH.nil
      go_simp
      refine (HAA.out _ (N1.out.below hS0) (N2.out.below hS0) (E1.out.below hS0) (E2.out.below hS0)).mono ?_
      rintro e w' ⟨rfl, hb⟩
      try go_wp2_with fail
      refine hK.out _ _ ?hs46 (fun hS1 => ?_)
      case hs46 => exact bel_next hS0 hb
      clear hK K
      try simp only [Act.put, List.setIfInBounds_toArray, List.set_cons_zero, List.set_cons_succ]
      refine takeInH 9 26 ?v47 rfl rfl (by kernel_rfl) (by kernel_rfl) (by kernel_rfl) (fun _ _ _ h => h) (by kernel_rfl) hS1 ?hy47 ?_
      case hy47 => (intro W hW; clear hW; go_simp; try rfl)
      simp only [Act.put, List.setIfInBounds_toArray, List.set_cons_zero, List.set_cons_succ]
      refine wpAnyH_done (by kernel_rfl) ?_ _
      go_wp2
      go_roundw
      case rel => exact ⟨k + 1, by omega, by go_num, (show Hid _ from bel_next hB.out hS1)⟩
      case measure => simp [intOf]; omega
    · have hkz : ¬ (k : Int) < (n : Int) := by omega
      go_wp2
      go_ret
      exact ⟨rfl, hB.out⟩
end Go.Proofs.Ytooggheoaglbeaa

