/- Texts of this claim, joined: ESame, EFun2, CTurn. -/
import Derived.Test.YtooggheoaglbeaaJ4
import Derived.Test.YtooggheoaglbeaaJ5
import Derived.Laws.StructEq
import Derived.Test.YtooggheoaglbeaaJ3
/- Whether effects, and events, are alike: the program's and the document's answer. -/
namespace Go.Proofs.Ytooggheoaglbeaa
open Go.RowKit
set_option linter.unusedVariables false

theorem eff_beq (x y : Eff) (hx : ByF x) (hy : ByF y) : (x.1 == y.1 && (x.2.1 == y.2.1 && ((strOfNums x.2.2.1).toList == (strOfNums y.2.2.1).toList && (x.2.2.2.1 == y.2.2.2.1 && (x.2.2.2.2.1 == y.2.2.2.2.1 && (strOfNums x.2.2.2.2.2).toList == (strOfNums y.2.2.2.2.2).toList))))) = decide (x = y) := by
  rw [str_toList _ _ hx.1 hy.1, str_toList _ _ hx.2 hy.2]
  obtain ⟨a, b, c, d, e, f⟩ := x
  obtain ⟨a', b', c', d', e', f'⟩ := y
  rw [Bool.eq_iff_iff]
  simp [Prod.ext_iff]
theorem eff_eq (x y : Eff) (hx : ByF x) (hy : ByF y) : x = y ↔ (x.1 = y.1 ∧ x.2.1 = y.2.1 ∧ (strOfNums x.2.2.1).toList = (strOfNums y.2.2.1).toList ∧ x.2.2.2.1 = y.2.2.2.1 ∧ x.2.2.2.2.1 = y.2.2.2.2.1 ∧ (strOfNums x.2.2.2.2.2).toList = (strOfNums y.2.2.2.2.2).toList) := by
  have h := eff_beq x y hx hy
  rw [Bool.eq_iff_iff, decide_eq_true_iff] at h
  rw [← h]
  simp
theorem eq_dropE {l m : List Eff} {k : Nat} {x y : Eff} (h : l[k]? = some x) (h2 : m[k]? = some y) : (l.drop k = m.drop k) ↔ (x = y ∧ l.drop (k + 1) = m.drop (k + 1)) := by
  obtain ⟨h1, e1⟩ := List.getElem?_eq_some_iff.1 h
  obtain ⟨h3, e2⟩ := List.getElem?_eq_some_iff.1 h2
  rw [List.drop_eq_getElem_cons h1, List.drop_eq_getElem_cons h3, List.cons.injEq, e1, e2]

set_option maxHeartbeats 8000000 in
theorem equalF_any (a a' : Option Addr) (n cap n' cap' : Nat) (l m : List Eff) (w : World) (hE : ES w a n l) (hE' : ES w a' n' m) :
    Calls Try.prog 36 #[.slice a n cap, .slice a' n' cap'] w fun e w' => e = .returned (.bool (decide (l = m))) ∧ Below w.heap.size w w' := by
  have hmax := hE.1.2.1
  have hmax' := hE'.1.2.1
  unfold maxLen at hmax hmax'
  have HL := hide hE.1.1
  have HL' := hide hE'.1.1
  have HE1 := hide hE
  have HE2 := hide hE'
  clear hE hE'
  by_cases hnn : n = n'
  · subst hnn
    go_enter Try.func36, Try.ntmps36
    go_wp2
    go_loopw [13] (fun i wr => ∃ k : Nat, k ≤ n ∧ i = .int .i64 k ∧ Hid (Below w.heap.size w wr) ∧ Hid ((l = m) ↔ (l.drop k = m.drop k))) (fun i _ => n - (intOf i).toNat)
    case atStart => exact ⟨0, by omega, rfl, Below.refl _ _, by unfold Hid; simp⟩
    case round =>
      obtain ⟨k, hk, rfl, hB, hH⟩ := hrel
      by_cases hlt : k < n
      · skip
        obtain ⟨x, hx⟩ : ∃ x, l[k]? = some x := ⟨_, List.getElem?_eq_getElem (by rw [HL.out]; exact hlt)⟩
        obtain ⟨y, hy⟩ : ∃ y, m[k]? = some y := ⟨_, List.getElem?_eq_getElem (by rw [HL'.out]; exact hlt)⟩
        rcases HE1.out.1.2.2 with h0 | ⟨b, off, rfl, _⟩
        · omega
        rcases HE2.out.1.2.2 with h0 | ⟨b', off', rfl, _⟩
        · omega
        obtain ⟨c0, c1, c2, c3, c4, c5⟩ := HE1.out.at k x hx
        obtain ⟨d0, d1, d2, d3, d4, d5⟩ := HE2.out.at k y hy
        replace c0 := bcell hB.out c0
        replace c1 := bcell hB.out c1
        replace c2 := bcell hB.out c2
        replace c3 := bcell hB.out c3
        replace c4 := bcell hB.out c4
        replace c5 := bcell hB.out c5
        replace d0 := bcell hB.out d0
        replace d1 := bcell hB.out d1
        replace d2 := bcell hB.out d2
        replace d3 := bcell hB.out d3
        replace d4 := bcell hB.out d4
        replace d5 := bcell hB.out d5
        have hst : Hid ((l = m) ↔ (x = y ∧ l.drop (k + 1) = m.drop (k + 1))) := by unfold Hid; rw [← eq_dropE hx hy]; exact hH.out
        have hxy := eff_eq x y (HE1.out.2 x (List.mem_of_getElem? hx)) (HE2.out.2 y (List.mem_of_getElem? hy))
        clear hx hy hH
        obtain ⟨xk, xo, xky, xn, xt, xw⟩ := x
        obtain ⟨yk, yo, yky, yn, yt, yw⟩ := y
        have HXY := hide hxy
        clear hxy
        simp only [] at HXY c0 c1 c2 c3 c4 c5 d0 d1 d2 d3 d4 d5
        generalize strOfNums xky = sk at *
        generalize strOfNums xw = sw at *
        generalize strOfNums yky = sk' at *
        generalize strOfNums yw = sw' at *
        by_cases q0 : xk = yk
        · skip
          by_cases q1 : xo = yo
          · skip
            by_cases q2 : sk.toList = sk'.toList
            · skip
              by_cases q3 : xn = yn
              · skip
                by_cases q4 : xt = yt
                · skip
                  by_cases q5 : sw.toList = sw'.toList
                  · skip
                    have hst2 : Hid ((l = m) ↔ (l.drop (k + 1) = m.drop (k + 1))) := by unfold Hid; rw [hst.out, HXY.out]; simp [q0, q1, q2, q3, q4, q5]
                    clear hst HXY
                    go_wp2
                    refine wp_region_held_drew (S := fun W => Below wr.heap.size wr W) (by kernel_rfl) ((Below.refl _ wr).drew) (fun hS0 => ?_)
                    refine takeInH 0 16 ?v1 rfl rfl (by kernel_rfl) (by kernel_rfl) (by kernel_rfl) (fun _ _ _ h => h) (by kernel_rfl) hS0 ?hy1 ?_
                    case hy1 => (intro W hW; clear hW; go_simp; try rfl)
                    simp only [Act.put, List.setIfInBounds_toArray, List.set_cons_zero, List.set_cons_succ]
                    refine takeInH 1 17 ?v2 rfl rfl (by kernel_rfl) (by kernel_rfl) (by kernel_rfl) (fun _ _ _ h => h) (by kernel_rfl) hS0 ?hy2 ?_
                    case hy2 => (intro W hW; clear hW; go_simp; try rfl)
                    simp only [Act.put, List.setIfInBounds_toArray, List.set_cons_zero, List.set_cons_succ]
                    refine takeInH 2 18 ?v3 rfl rfl (by kernel_rfl) (by kernel_rfl) (by kernel_rfl) (fun _ _ _ h => h) (by kernel_rfl) hS0 ?hy3 ?_
                    case hy3 => (intro W hW; clear hW; go_simp; try rfl)
                    simp only [Act.put, List.setIfInBounds_toArray, List.set_cons_zero, List.set_cons_succ]
                    refine takeInH 3 19 ?v4 rfl rfl (by kernel_rfl) (by kernel_rfl) (by kernel_rfl) (fun _ _ _ h => h) (by kernel_rfl) hS0 ?hy4 ?_
                    case hy4 => (intro W hW; have e0 := bcell hW c0; have e1 := bcell hW c1; have e2 := bcell hW c2; have e3 := bcell hW c3; have e4 := bcell hW c4; have e5 := bcell hW c5; have e6 := bcell hW d0; have e7 := bcell hW d1; have e8 := bcell hW d2; have e9 := bcell hW d3; have e10 := bcell hW d4; have e11 := bcell hW d5; clear hW; go_simp; try rfl)
                    simp only [Act.put, List.setIfInBounds_toArray, List.set_cons_zero, List.set_cons_succ]
                    refine takeInH 4 20 ?v5 rfl rfl (by kernel_rfl) (by kernel_rfl) (by kernel_rfl) (fun _ _ _ h => h) (by kernel_rfl) hS0 ?hy5 ?_
                    case hy5 => (intro W hW; clear hW; go_simp; try rfl)
                    simp only [Act.put, List.setIfInBounds_toArray, List.set_cons_zero, List.set_cons_succ]
                    refine takeInH 5 21 ?v6 rfl rfl (by kernel_rfl) (by kernel_rfl) (by kernel_rfl) (fun _ _ _ h => h) (by kernel_rfl) hS0 ?hy6 ?_
                    case hy6 => (intro W hW; clear hW; go_simp; try rfl)
                    simp only [Act.put, List.setIfInBounds_toArray, List.set_cons_zero, List.set_cons_succ]
                    refine takeInH 6 22 ?v7 rfl rfl (by kernel_rfl) (by kernel_rfl) (by kernel_rfl) (fun _ _ _ h => h) (by kernel_rfl) hS0 ?hy7 ?_
                    case hy7 => (intro W hW; clear hW; go_simp; try rfl)
                    simp only [Act.put, List.setIfInBounds_toArray, List.set_cons_zero, List.set_cons_succ]
                    refine takeInH 7 23 ?v8 rfl rfl (by kernel_rfl) (by kernel_rfl) (by kernel_rfl) (fun _ _ _ h => h) (by kernel_rfl) hS0 ?hy8 ?_
                    case hy8 => (intro W hW; have e0 := bcell hW c0; have e1 := bcell hW c1; have e2 := bcell hW c2; have e3 := bcell hW c3; have e4 := bcell hW c4; have e5 := bcell hW c5; have e6 := bcell hW d0; have e7 := bcell hW d1; have e8 := bcell hW d2; have e9 := bcell hW d3; have e10 := bcell hW d4; have e11 := bcell hW d5; clear hW; go_simp; try rfl)
                    simp only [Act.put, List.setIfInBounds_toArray, List.set_cons_zero, List.set_cons_succ]
                    refine takeInH 8 24 ?v9 rfl rfl (by kernel_rfl) (by kernel_rfl) (by kernel_rfl) (fun _ _ _ h => h) (by kernel_rfl) hS0 ?hy9 ?_
                    case hy9 => (intro W hW; clear hW; go_simp; try rfl)
                    simp only [Act.put, List.setIfInBounds_toArray, List.set_cons_zero, List.set_cons_succ]
                    refine wpAnyH_done (by kernel_rfl) ?_ _
                    go_wp2
                    go_roundw
                    case rel => exact ⟨k + 1, by omega, by go_num, bel_next hB.out (by assumption), hst2⟩
                    case measure => simp [intOf]; omega
                  · skip
                    have HE : Hid (false = decide (l = m)) := by unfold Hid; symm; rw [decide_eq_false_iff_not, hst.out, HXY.out]; rintro ⟨⟨h0, h1, h2, h3, h4, h5⟩, _⟩; contradiction
                    clear hst HXY
                    go_wp2
                    refine wp_region_held_drew (S := fun W => Below wr.heap.size wr W) (by kernel_rfl) ((Below.refl _ wr).drew) (fun hS0 => ?_)
                    refine takeInH 0 16 ?v10 rfl rfl (by kernel_rfl) (by kernel_rfl) (by kernel_rfl) (fun _ _ _ h => h) (by kernel_rfl) hS0 ?hy10 ?_
                    case hy10 => (intro W hW; clear hW; go_simp; try rfl)
                    simp only [Act.put, List.setIfInBounds_toArray, List.set_cons_zero, List.set_cons_succ]
                    refine takeInH 1 17 ?v11 rfl rfl (by kernel_rfl) (by kernel_rfl) (by kernel_rfl) (fun _ _ _ h => h) (by kernel_rfl) hS0 ?hy11 ?_
                    case hy11 => (intro W hW; clear hW; go_simp; try rfl)
                    simp only [Act.put, List.setIfInBounds_toArray, List.set_cons_zero, List.set_cons_succ]
                    refine takeInH 2 18 ?v12 rfl rfl (by kernel_rfl) (by kernel_rfl) (by kernel_rfl) (fun _ _ _ h => h) (by kernel_rfl) hS0 ?hy12 ?_
                    case hy12 => (intro W hW; clear hW; go_simp; try rfl)
                    simp only [Act.put, List.setIfInBounds_toArray, List.set_cons_zero, List.set_cons_succ]
                    refine takeInH 3 19 ?v13 rfl rfl (by kernel_rfl) (by kernel_rfl) (by kernel_rfl) (fun _ _ _ h => h) (by kernel_rfl) hS0 ?hy13 ?_
                    case hy13 => (intro W hW; have e0 := bcell hW c0; have e1 := bcell hW c1; have e2 := bcell hW c2; have e3 := bcell hW c3; have e4 := bcell hW c4; have e5 := bcell hW c5; have e6 := bcell hW d0; have e7 := bcell hW d1; have e8 := bcell hW d2; have e9 := bcell hW d3; have e10 := bcell hW d4; have e11 := bcell hW d5; clear hW; go_simp; try rfl)
                    simp only [Act.put, List.setIfInBounds_toArray, List.set_cons_zero, List.set_cons_succ]
                    refine takeInH 4 20 ?v14 rfl rfl (by kernel_rfl) (by kernel_rfl) (by kernel_rfl) (fun _ _ _ h => h) (by kernel_rfl) hS0 ?hy14 ?_
                    case hy14 => (intro W hW; clear hW; go_simp; try rfl)
                    simp only [Act.put, List.setIfInBounds_toArray, List.set_cons_zero, List.set_cons_succ]
                    refine takeInH 5 21 ?v15 rfl rfl (by kernel_rfl) (by kernel_rfl) (by kernel_rfl) (fun _ _ _ h => h) (by kernel_rfl) hS0 ?hy15 ?_
                    case hy15 => (intro W hW; clear hW; go_simp; try rfl)
                    simp only [Act.put, List.setIfInBounds_toArray, List.set_cons_zero, List.set_cons_succ]
                    refine takeInH 6 22 ?v16 rfl rfl (by kernel_rfl) (by kernel_rfl) (by kernel_rfl) (fun _ _ _ h => h) (by kernel_rfl) hS0 ?hy16 ?_
                    case hy16 => (intro W hW; clear hW; go_simp; try rfl)
                    simp only [Act.put, List.setIfInBounds_toArray, List.set_cons_zero, List.set_cons_succ]
                    refine takeInH 7 23 ?v17 rfl rfl (by kernel_rfl) (by kernel_rfl) (by kernel_rfl) (fun _ _ _ h => h) (by kernel_rfl) hS0 ?hy17 ?_
                    case hy17 => (intro W hW; have e0 := bcell hW c0; have e1 := bcell hW c1; have e2 := bcell hW c2; have e3 := bcell hW c3; have e4 := bcell hW c4; have e5 := bcell hW c5; have e6 := bcell hW d0; have e7 := bcell hW d1; have e8 := bcell hW d2; have e9 := bcell hW d3; have e10 := bcell hW d4; have e11 := bcell hW d5; clear hW; go_simp; try rfl)
                    simp only [Act.put, List.setIfInBounds_toArray, List.set_cons_zero, List.set_cons_succ]
                    refine takeInH 8 24 ?v18 rfl rfl (by kernel_rfl) (by kernel_rfl) (by kernel_rfl) (fun _ _ _ h => h) (by kernel_rfl) hS0 ?hy18 ?_
                    case hy18 => (intro W hW; clear hW; go_simp; try rfl)
                    simp only [Act.put, List.setIfInBounds_toArray, List.set_cons_zero, List.set_cons_succ]
                    refine wpAnyH_done (by kernel_rfl) ?_ _
                    go_wp2
                    go_ret
                    exact ⟨retB HE.out, bel_next hB.out (by assumption)⟩
                · skip
                  have HE : Hid (false = decide (l = m)) := by unfold Hid; symm; rw [decide_eq_false_iff_not, hst.out, HXY.out]; rintro ⟨⟨h0, h1, h2, h3, h4, h5⟩, _⟩; contradiction
                  clear hst HXY
                  go_wp2
                  refine wp_region_held_drew (S := fun W => Below wr.heap.size wr W) (by kernel_rfl) ((Below.refl _ wr).drew) (fun hS0 => ?_)
                  refine takeInH 0 16 ?v19 rfl rfl (by kernel_rfl) (by kernel_rfl) (by kernel_rfl) (fun _ _ _ h => h) (by kernel_rfl) hS0 ?hy19 ?_
                  case hy19 => (intro W hW; clear hW; go_simp; try rfl)
                  simp only [Act.put, List.setIfInBounds_toArray, List.set_cons_zero, List.set_cons_succ]
                  refine takeInH 1 17 ?v20 rfl rfl (by kernel_rfl) (by kernel_rfl) (by kernel_rfl) (fun _ _ _ h => h) (by kernel_rfl) hS0 ?hy20 ?_
                  case hy20 => (intro W hW; clear hW; go_simp; try rfl)
                  simp only [Act.put, List.setIfInBounds_toArray, List.set_cons_zero, List.set_cons_succ]
                  refine takeInH 2 18 ?v21 rfl rfl (by kernel_rfl) (by kernel_rfl) (by kernel_rfl) (fun _ _ _ h => h) (by kernel_rfl) hS0 ?hy21 ?_
                  case hy21 => (intro W hW; clear hW; go_simp; try rfl)
                  simp only [Act.put, List.setIfInBounds_toArray, List.set_cons_zero, List.set_cons_succ]
                  refine takeInH 3 19 ?v22 rfl rfl (by kernel_rfl) (by kernel_rfl) (by kernel_rfl) (fun _ _ _ h => h) (by kernel_rfl) hS0 ?hy22 ?_
                  case hy22 => (intro W hW; have e0 := bcell hW c0; have e1 := bcell hW c1; have e2 := bcell hW c2; have e3 := bcell hW c3; have e4 := bcell hW c4; have e5 := bcell hW c5; have e6 := bcell hW d0; have e7 := bcell hW d1; have e8 := bcell hW d2; have e9 := bcell hW d3; have e10 := bcell hW d4; have e11 := bcell hW d5; clear hW; go_simp; try rfl)
                  simp only [Act.put, List.setIfInBounds_toArray, List.set_cons_zero, List.set_cons_succ]
                  refine takeInH 4 20 ?v23 rfl rfl (by kernel_rfl) (by kernel_rfl) (by kernel_rfl) (fun _ _ _ h => h) (by kernel_rfl) hS0 ?hy23 ?_
                  case hy23 => (intro W hW; clear hW; go_simp; try rfl)
                  simp only [Act.put, List.setIfInBounds_toArray, List.set_cons_zero, List.set_cons_succ]
                  refine takeInH 5 21 ?v24 rfl rfl (by kernel_rfl) (by kernel_rfl) (by kernel_rfl) (fun _ _ _ h => h) (by kernel_rfl) hS0 ?hy24 ?_
                  case hy24 => (intro W hW; clear hW; go_simp; try rfl)
                  simp only [Act.put, List.setIfInBounds_toArray, List.set_cons_zero, List.set_cons_succ]
                  refine takeInH 6 22 ?v25 rfl rfl (by kernel_rfl) (by kernel_rfl) (by kernel_rfl) (fun _ _ _ h => h) (by kernel_rfl) hS0 ?hy25 ?_
                  case hy25 => (intro W hW; clear hW; go_simp; try rfl)
                  simp only [Act.put, List.setIfInBounds_toArray, List.set_cons_zero, List.set_cons_succ]
                  refine takeInH 7 23 ?v26 rfl rfl (by kernel_rfl) (by kernel_rfl) (by kernel_rfl) (fun _ _ _ h => h) (by kernel_rfl) hS0 ?hy26 ?_
                  case hy26 => (intro W hW; have e0 := bcell hW c0; have e1 := bcell hW c1; have e2 := bcell hW c2; have e3 := bcell hW c3; have e4 := bcell hW c4; have e5 := bcell hW c5; have e6 := bcell hW d0; have e7 := bcell hW d1; have e8 := bcell hW d2; have e9 := bcell hW d3; have e10 := bcell hW d4; have e11 := bcell hW d5; clear hW; go_simp; try rfl)
                  simp only [Act.put, List.setIfInBounds_toArray, List.set_cons_zero, List.set_cons_succ]
                  refine takeInH 8 24 ?v27 rfl rfl (by kernel_rfl) (by kernel_rfl) (by kernel_rfl) (fun _ _ _ h => h) (by kernel_rfl) hS0 ?hy27 ?_
                  case hy27 => (intro W hW; clear hW; go_simp; try rfl)
                  simp only [Act.put, List.setIfInBounds_toArray, List.set_cons_zero, List.set_cons_succ]
                  refine wpAnyH_done (by kernel_rfl) ?_ _
                  go_wp2
                  go_ret
                  exact ⟨retB HE.out, bel_next hB.out (by assumption)⟩
              · skip
                have HE : Hid (false = decide (l = m)) := by unfold Hid; symm; rw [decide_eq_false_iff_not, hst.out, HXY.out]; rintro ⟨⟨h0, h1, h2, h3, h4, h5⟩, _⟩; contradiction
                clear hst HXY
                go_wp2
                refine wp_region_held_drew (S := fun W => Below wr.heap.size wr W) (by kernel_rfl) ((Below.refl _ wr).drew) (fun hS0 => ?_)
                refine takeInH 0 16 ?v28 rfl rfl (by kernel_rfl) (by kernel_rfl) (by kernel_rfl) (fun _ _ _ h => h) (by kernel_rfl) hS0 ?hy28 ?_
                case hy28 => (intro W hW; clear hW; go_simp; try rfl)
                simp only [Act.put, List.setIfInBounds_toArray, List.set_cons_zero, List.set_cons_succ]
                refine takeInH 1 17 ?v29 rfl rfl (by kernel_rfl) (by kernel_rfl) (by kernel_rfl) (fun _ _ _ h => h) (by kernel_rfl) hS0 ?hy29 ?_
                case hy29 => (intro W hW; clear hW; go_simp; try rfl)
                simp only [Act.put, List.setIfInBounds_toArray, List.set_cons_zero, List.set_cons_succ]
                refine takeInH 2 18 ?v30 rfl rfl (by kernel_rfl) (by kernel_rfl) (by kernel_rfl) (fun _ _ _ h => h) (by kernel_rfl) hS0 ?hy30 ?_
                case hy30 => (intro W hW; clear hW; go_simp; try rfl)
                simp only [Act.put, List.setIfInBounds_toArray, List.set_cons_zero, List.set_cons_succ]
                refine takeInH 3 19 ?v31 rfl rfl (by kernel_rfl) (by kernel_rfl) (by kernel_rfl) (fun _ _ _ h => h) (by kernel_rfl) hS0 ?hy31 ?_
                case hy31 => (intro W hW; have e0 := bcell hW c0; have e1 := bcell hW c1; have e2 := bcell hW c2; have e3 := bcell hW c3; have e4 := bcell hW c4; have e5 := bcell hW c5; have e6 := bcell hW d0; have e7 := bcell hW d1; have e8 := bcell hW d2; have e9 := bcell hW d3; have e10 := bcell hW d4; have e11 := bcell hW d5; clear hW; go_simp; try rfl)
                simp only [Act.put, List.setIfInBounds_toArray, List.set_cons_zero, List.set_cons_succ]
                refine takeInH 4 20 ?v32 rfl rfl (by kernel_rfl) (by kernel_rfl) (by kernel_rfl) (fun _ _ _ h => h) (by kernel_rfl) hS0 ?hy32 ?_
                case hy32 => (intro W hW; clear hW; go_simp; try rfl)
                simp only [Act.put, List.setIfInBounds_toArray, List.set_cons_zero, List.set_cons_succ]
                refine takeInH 5 21 ?v33 rfl rfl (by kernel_rfl) (by kernel_rfl) (by kernel_rfl) (fun _ _ _ h => h) (by kernel_rfl) hS0 ?hy33 ?_
                case hy33 => (intro W hW; clear hW; go_simp; try rfl)
                simp only [Act.put, List.setIfInBounds_toArray, List.set_cons_zero, List.set_cons_succ]
                refine takeInH 6 22 ?v34 rfl rfl (by kernel_rfl) (by kernel_rfl) (by kernel_rfl) (fun _ _ _ h => h) (by kernel_rfl) hS0 ?hy34 ?_
                case hy34 => (intro W hW; clear hW; go_simp; try rfl)
                simp only [Act.put, List.setIfInBounds_toArray, List.set_cons_zero, List.set_cons_succ]
                refine takeInH 7 23 ?v35 rfl rfl (by kernel_rfl) (by kernel_rfl) (by kernel_rfl) (fun _ _ _ h => h) (by kernel_rfl) hS0 ?hy35 ?_
                case hy35 => (intro W hW; have e0 := bcell hW c0; have e1 := bcell hW c1; have e2 := bcell hW c2; have e3 := bcell hW c3; have e4 := bcell hW c4; have e5 := bcell hW c5; have e6 := bcell hW d0; have e7 := bcell hW d1; have e8 := bcell hW d2; have e9 := bcell hW d3; have e10 := bcell hW d4; have e11 := bcell hW d5; clear hW; go_simp; try rfl)
                simp only [Act.put, List.setIfInBounds_toArray, List.set_cons_zero, List.set_cons_succ]
                refine takeInH 8 24 ?v36 rfl rfl (by kernel_rfl) (by kernel_rfl) (by kernel_rfl) (fun _ _ _ h => h) (by kernel_rfl) hS0 ?hy36 ?_
                case hy36 => (intro W hW; clear hW; go_simp; try rfl)
                simp only [Act.put, List.setIfInBounds_toArray, List.set_cons_zero, List.set_cons_succ]
                refine wpAnyH_done (by kernel_rfl) ?_ _
                go_wp2
                go_ret
                exact ⟨retB HE.out, bel_next hB.out (by assumption)⟩
            · skip
              have HE : Hid (false = decide (l = m)) := by unfold Hid; symm; rw [decide_eq_false_iff_not, hst.out, HXY.out]; rintro ⟨⟨h0, h1, h2, h3, h4, h5⟩, _⟩; contradiction
              clear hst HXY
              go_wp2
              refine wp_region_held_drew (S := fun W => Below wr.heap.size wr W) (by kernel_rfl) ((Below.refl _ wr).drew) (fun hS0 => ?_)
              refine takeInH 0 16 ?v37 rfl rfl (by kernel_rfl) (by kernel_rfl) (by kernel_rfl) (fun _ _ _ h => h) (by kernel_rfl) hS0 ?hy37 ?_
              case hy37 => (intro W hW; clear hW; go_simp; try rfl)
              simp only [Act.put, List.setIfInBounds_toArray, List.set_cons_zero, List.set_cons_succ]
              refine takeInH 1 17 ?v38 rfl rfl (by kernel_rfl) (by kernel_rfl) (by kernel_rfl) (fun _ _ _ h => h) (by kernel_rfl) hS0 ?hy38 ?_
              case hy38 => (intro W hW; clear hW; go_simp; try rfl)
              simp only [Act.put, List.setIfInBounds_toArray, List.set_cons_zero, List.set_cons_succ]
              refine takeInH 2 18 ?v39 rfl rfl (by kernel_rfl) (by kernel_rfl) (by kernel_rfl) (fun _ _ _ h => h) (by kernel_rfl) hS0 ?hy39 ?_
              case hy39 => (intro W hW; clear hW; go_simp; try rfl)
              simp only [Act.put, List.setIfInBounds_toArray, List.set_cons_zero, List.set_cons_succ]
              refine takeInH 3 19 ?v40 rfl rfl (by kernel_rfl) (by kernel_rfl) (by kernel_rfl) (fun _ _ _ h => h) (by kernel_rfl) hS0 ?hy40 ?_
              case hy40 => (intro W hW; have e0 := bcell hW c0; have e1 := bcell hW c1; have e2 := bcell hW c2; have e3 := bcell hW c3; have e4 := bcell hW c4; have e5 := bcell hW c5; have e6 := bcell hW d0; have e7 := bcell hW d1; have e8 := bcell hW d2; have e9 := bcell hW d3; have e10 := bcell hW d4; have e11 := bcell hW d5; clear hW; go_simp; try rfl)
              simp only [Act.put, List.setIfInBounds_toArray, List.set_cons_zero, List.set_cons_succ]
              refine takeInH 4 20 ?v41 rfl rfl (by kernel_rfl) (by kernel_rfl) (by kernel_rfl) (fun _ _ _ h => h) (by kernel_rfl) hS0 ?hy41 ?_
              case hy41 => (intro W hW; clear hW; go_simp; try rfl)
              simp only [Act.put, List.setIfInBounds_toArray, List.set_cons_zero, List.set_cons_succ]
              refine takeInH 5 21 ?v42 rfl rfl (by kernel_rfl) (by kernel_rfl) (by kernel_rfl) (fun _ _ _ h => h) (by kernel_rfl) hS0 ?hy42 ?_
              case hy42 => (intro W hW; clear hW; go_simp; try rfl)
              simp only [Act.put, List.setIfInBounds_toArray, List.set_cons_zero, List.set_cons_succ]
              refine takeInH 6 22 ?v43 rfl rfl (by kernel_rfl) (by kernel_rfl) (by kernel_rfl) (fun _ _ _ h => h) (by kernel_rfl) hS0 ?hy43 ?_
              case hy43 => (intro W hW; clear hW; go_simp; try rfl)
              simp only [Act.put, List.setIfInBounds_toArray, List.set_cons_zero, List.set_cons_succ]
              refine takeInH 7 23 ?v44 rfl rfl (by kernel_rfl) (by kernel_rfl) (by kernel_rfl) (fun _ _ _ h => h) (by kernel_rfl) hS0 ?hy44 ?_
              case hy44 => (intro W hW; have e0 := bcell hW c0; have e1 := bcell hW c1; have e2 := bcell hW c2; have e3 := bcell hW c3; have e4 := bcell hW c4; have e5 := bcell hW c5; have e6 := bcell hW d0; have e7 := bcell hW d1; have e8 := bcell hW d2; have e9 := bcell hW d3; have e10 := bcell hW d4; have e11 := bcell hW d5; clear hW; go_simp; try rfl)
              simp only [Act.put, List.setIfInBounds_toArray, List.set_cons_zero, List.set_cons_succ]
              refine takeInH 8 24 ?v45 rfl rfl (by kernel_rfl) (by kernel_rfl) (by kernel_rfl) (fun _ _ _ h => h) (by kernel_rfl) hS0 ?hy45 ?_
              case hy45 => (intro W hW; clear hW; go_simp; try rfl)
              simp only [Act.put, List.setIfInBounds_toArray, List.set_cons_zero, List.set_cons_succ]
              refine wpAnyH_done (by kernel_rfl) ?_ _
              go_wp2
              go_ret
              exact ⟨retB HE.out, bel_next hB.out (by assumption)⟩
          · skip
            have HE : Hid (false = decide (l = m)) := by unfold Hid; symm; rw [decide_eq_false_iff_not, hst.out, HXY.out]; rintro ⟨⟨h0, h1, h2, h3, h4, h5⟩, _⟩; contradiction
            clear hst HXY
            go_wp2
            refine wp_region_held_drew (S := fun W => Below wr.heap.size wr W) (by kernel_rfl) ((Below.refl _ wr).drew) (fun hS0 => ?_)
            refine takeInH 0 16 ?v46 rfl rfl (by kernel_rfl) (by kernel_rfl) (by kernel_rfl) (fun _ _ _ h => h) (by kernel_rfl) hS0 ?hy46 ?_
            case hy46 => (intro W hW; clear hW; go_simp; try rfl)
            simp only [Act.put, List.setIfInBounds_toArray, List.set_cons_zero, List.set_cons_succ]
            refine takeInH 1 17 ?v47 rfl rfl (by kernel_rfl) (by kernel_rfl) (by kernel_rfl) (fun _ _ _ h => h) (by kernel_rfl) hS0 ?hy47 ?_
            case hy47 => (intro W hW; clear hW; go_simp; try rfl)
            simp only [Act.put, List.setIfInBounds_toArray, List.set_cons_zero, List.set_cons_succ]
            refine takeInH 2 18 ?v48 rfl rfl (by kernel_rfl) (by kernel_rfl) (by kernel_rfl) (fun _ _ _ h => h) (by kernel_rfl) hS0 ?hy48 ?_
            case hy48 => (intro W hW; clear hW; go_simp; try rfl)
            simp only [Act.put, List.setIfInBounds_toArray, List.set_cons_zero, List.set_cons_succ]
            refine takeInH 3 19 ?v49 rfl rfl (by kernel_rfl) (by kernel_rfl) (by kernel_rfl) (fun _ _ _ h => h) (by kernel_rfl) hS0 ?hy49 ?_
            case hy49 => (intro W hW; have e0 := bcell hW c0; have e1 := bcell hW c1; have e2 := bcell hW c2; have e3 := bcell hW c3; have e4 := bcell hW c4; have e5 := bcell hW c5; have e6 := bcell hW d0; have e7 := bcell hW d1; have e8 := bcell hW d2; have e9 := bcell hW d3; have e10 := bcell hW d4; have e11 := bcell hW d5; clear hW; go_simp; try rfl)
            simp only [Act.put, List.setIfInBounds_toArray, List.set_cons_zero, List.set_cons_succ]
            refine takeInH 4 20 ?v50 rfl rfl (by kernel_rfl) (by kernel_rfl) (by kernel_rfl) (fun _ _ _ h => h) (by kernel_rfl) hS0 ?hy50 ?_
            case hy50 => (intro W hW; clear hW; go_simp; try rfl)
            simp only [Act.put, List.setIfInBounds_toArray, List.set_cons_zero, List.set_cons_succ]
            refine takeInH 5 21 ?v51 rfl rfl (by kernel_rfl) (by kernel_rfl) (by kernel_rfl) (fun _ _ _ h => h) (by kernel_rfl) hS0 ?hy51 ?_
            case hy51 => (intro W hW; clear hW; go_simp; try rfl)
            simp only [Act.put, List.setIfInBounds_toArray, List.set_cons_zero, List.set_cons_succ]
            refine takeInH 6 22 ?v52 rfl rfl (by kernel_rfl) (by kernel_rfl) (by kernel_rfl) (fun _ _ _ h => h) (by kernel_rfl) hS0 ?hy52 ?_
            case hy52 => (intro W hW; clear hW; go_simp; try rfl)
            simp only [Act.put, List.setIfInBounds_toArray, List.set_cons_zero, List.set_cons_succ]
            refine takeInH 7 23 ?v53 rfl rfl (by kernel_rfl) (by kernel_rfl) (by kernel_rfl) (fun _ _ _ h => h) (by kernel_rfl) hS0 ?hy53 ?_
            case hy53 => (intro W hW; have e0 := bcell hW c0; have e1 := bcell hW c1; have e2 := bcell hW c2; have e3 := bcell hW c3; have e4 := bcell hW c4; have e5 := bcell hW c5; have e6 := bcell hW d0; have e7 := bcell hW d1; have e8 := bcell hW d2; have e9 := bcell hW d3; have e10 := bcell hW d4; have e11 := bcell hW d5; clear hW; go_simp; try rfl)
            simp only [Act.put, List.setIfInBounds_toArray, List.set_cons_zero, List.set_cons_succ]
            refine takeInH 8 24 ?v54 rfl rfl (by kernel_rfl) (by kernel_rfl) (by kernel_rfl) (fun _ _ _ h => h) (by kernel_rfl) hS0 ?hy54 ?_
            case hy54 => (intro W hW; clear hW; go_simp; try rfl)
            simp only [Act.put, List.setIfInBounds_toArray, List.set_cons_zero, List.set_cons_succ]
            refine wpAnyH_done (by kernel_rfl) ?_ _
            go_wp2
            go_ret
            exact ⟨retB HE.out, bel_next hB.out (by assumption)⟩
        · skip
          have HE : Hid (false = decide (l = m)) := by unfold Hid; symm; rw [decide_eq_false_iff_not, hst.out, HXY.out]; rintro ⟨⟨h0, h1, h2, h3, h4, h5⟩, _⟩; contradiction
          clear hst HXY
          go_wp2
          refine wp_region_held_drew (S := fun W => Below wr.heap.size wr W) (by kernel_rfl) ((Below.refl _ wr).drew) (fun hS0 => ?_)
          refine takeInH 0 16 ?v55 rfl rfl (by kernel_rfl) (by kernel_rfl) (by kernel_rfl) (fun _ _ _ h => h) (by kernel_rfl) hS0 ?hy55 ?_
          case hy55 => (intro W hW; clear hW; go_simp; try rfl)
          simp only [Act.put, List.setIfInBounds_toArray, List.set_cons_zero, List.set_cons_succ]
          refine takeInH 1 17 ?v56 rfl rfl (by kernel_rfl) (by kernel_rfl) (by kernel_rfl) (fun _ _ _ h => h) (by kernel_rfl) hS0 ?hy56 ?_
          case hy56 => (intro W hW; clear hW; go_simp; try rfl)
          simp only [Act.put, List.setIfInBounds_toArray, List.set_cons_zero, List.set_cons_succ]
          refine takeInH 2 18 ?v57 rfl rfl (by kernel_rfl) (by kernel_rfl) (by kernel_rfl) (fun _ _ _ h => h) (by kernel_rfl) hS0 ?hy57 ?_
          case hy57 => (intro W hW; clear hW; go_simp; try rfl)
          simp only [Act.put, List.setIfInBounds_toArray, List.set_cons_zero, List.set_cons_succ]
          refine takeInH 3 19 ?v58 rfl rfl (by kernel_rfl) (by kernel_rfl) (by kernel_rfl) (fun _ _ _ h => h) (by kernel_rfl) hS0 ?hy58 ?_
          case hy58 => (intro W hW; have e0 := bcell hW c0; have e1 := bcell hW c1; have e2 := bcell hW c2; have e3 := bcell hW c3; have e4 := bcell hW c4; have e5 := bcell hW c5; have e6 := bcell hW d0; have e7 := bcell hW d1; have e8 := bcell hW d2; have e9 := bcell hW d3; have e10 := bcell hW d4; have e11 := bcell hW d5; clear hW; go_simp; try rfl)
          simp only [Act.put, List.setIfInBounds_toArray, List.set_cons_zero, List.set_cons_succ]
          refine takeInH 4 20 ?v59 rfl rfl (by kernel_rfl) (by kernel_rfl) (by kernel_rfl) (fun _ _ _ h => h) (by kernel_rfl) hS0 ?hy59 ?_
          case hy59 => (intro W hW; clear hW; go_simp; try rfl)
          simp only [Act.put, List.setIfInBounds_toArray, List.set_cons_zero, List.set_cons_succ]
          refine takeInH 5 21 ?v60 rfl rfl (by kernel_rfl) (by kernel_rfl) (by kernel_rfl) (fun _ _ _ h => h) (by kernel_rfl) hS0 ?hy60 ?_
          case hy60 => (intro W hW; clear hW; go_simp; try rfl)
          simp only [Act.put, List.setIfInBounds_toArray, List.set_cons_zero, List.set_cons_succ]
          refine takeInH 6 22 ?v61 rfl rfl (by kernel_rfl) (by kernel_rfl) (by kernel_rfl) (fun _ _ _ h => h) (by kernel_rfl) hS0 ?hy61 ?_
          case hy61 => (intro W hW; clear hW; go_simp; try rfl)
          simp only [Act.put, List.setIfInBounds_toArray, List.set_cons_zero, List.set_cons_succ]
          refine takeInH 7 23 ?v62 rfl rfl (by kernel_rfl) (by kernel_rfl) (by kernel_rfl) (fun _ _ _ h => h) (by kernel_rfl) hS0 ?hy62 ?_
          case hy62 => (intro W hW; have e0 := bcell hW c0; have e1 := bcell hW c1; have e2 := bcell hW c2; have e3 := bcell hW c3; have e4 := bcell hW c4; have e5 := bcell hW c5; have e6 := bcell hW d0; have e7 := bcell hW d1; have e8 := bcell hW d2; have e9 := bcell hW d3; have e10 := bcell hW d4; have e11 := bcell hW d5; clear hW; go_simp; try rfl)
          simp only [Act.put, List.setIfInBounds_toArray, List.set_cons_zero, List.set_cons_succ]
          refine takeInH 8 24 ?v63 rfl rfl (by kernel_rfl) (by kernel_rfl) (by kernel_rfl) (fun _ _ _ h => h) (by kernel_rfl) hS0 ?hy63 ?_
          case hy63 => (intro W hW; clear hW; go_simp; try rfl)
          simp only [Act.put, List.setIfInBounds_toArray, List.set_cons_zero, List.set_cons_succ]
          refine wpAnyH_done (by kernel_rfl) ?_ _
          go_wp2
          go_ret
          exact ⟨retB HE.out, bel_next hB.out (by assumption)⟩
      · have hkl : k = n := by omega
        subst hkl
        have HE : Hid (true = decide (l = m)) := by
          have h2 := hH.out
          rw [List.drop_of_length_le (by rw [HL.out]; exact Nat.le_refl _), List.drop_of_length_le (by rw [HL'.out]; exact Nat.le_refl _)] at h2
          unfold Hid; symm; rw [decide_eq_true_iff, h2]
        go_wp2
        go_ret
        exact ⟨retB HE.out, hB.out⟩
  · have HE : Hid (false = decide (l = m)) := by
      unfold Hid; symm; rw [decide_eq_false_iff_not]
      intro h
      rw [h] at HL
      have h1 := HL.out
      have h2 := HL'.out
      omega
    have hn1 : ((n : Int) == (n' : Int)) = false := by simp; omega
    have hn2 : ¬ (n : Int) = (n' : Int) := by omega
    have hn3 : ((n : Int) != (n' : Int)) = true := by simp; omega
    go_enter Try.func36, Try.ntmps36
    go_wp2
    go_ret
    exact ⟨retB HE.out, Below.refl _ _⟩
def sameB (x y : Evt) : Bool := decide (x.1 = y.1) && decide (x.2.1 = y.2.1) && decide (x.2.2 = y.2.2)
theorem sameB_iff {r s r' s' : Int} {c c' : List Int} {l l' : List Eff} : sameB ((r, s), c, l) ((r', s'), c', l') = true ↔ (r = r' ∧ s = s') ∧ c = c' ∧ l = l' := by simp [sameB, and_assoc]
theorem sameB_self (x : Evt) : sameB x x = true := by simp [sameB]
set_option maxHeartbeats 4000000 in
theorem SameE_any (r s : Int) (pa : Option Addr) (na ca : Nat) (pe : Option Addr) (ne ce : Nat) (r' s' : Int) (pb : Option Addr) (nb cb : Nat) (pf : Option Addr) (nf cf : Nat) (c c' : List Int) (l l' : List Eff) (w : World) (hN : NS w pa na c) (hN' : NS w pb nb c') (hE : ES w pe ne l) (hE' : ES w pf nf l') :
    Calls Try.prog 13 #[.agg #[.int .i64 r, .int .i64 s, .slice pa na ca, .slice pe ne ce], .agg #[.int .i64 r', .int .i64 s', .slice pb nb cb, .slice pf nf cf]] w fun e w' => e = .returned (.bool (sameB ((r, s), c, l) ((r', s'), c', l'))) ∧ Below w.heap.size w w' := by
  have HU := hide (bel2 w (bxE r s pa na ca pe ne ce) (bxE r' s' pb nb cb pf nf cf))
  have N1 := hide ((hN.alloc (bxE r s pa na ca pe ne ce)).alloc (bxE r' s' pb nb cb pf nf cf))
  have N2 := hide ((hN'.alloc (bxE r s pa na ca pe ne ce)).alloc (bxE r' s' pb nb cb pf nf cf))
  have E1 := hide ((hE.alloc (bxE r s pa na ca pe ne ce)).alloc (bxE r' s' pb nb cb pf nf cf))
  have E2 := hide ((hE'.alloc (bxE r s pa na ca pe ne ce)).alloc (bxE r' s' pb nb cb pf nf cf))
  have X1 := hide ((BX.new w _ rfl #[.int .i64 r, .int .i64 s, .slice pa na ca, .slice pe ne ce] 28).alloc (bxE r' s' pb nb cb pf nf cf))
  have X2 := hide (BX.new (w.alloc (bxE r s pa na ca pe ne ce)) (w.heap.size + 1) (by simp) #[.int .i64 r', .int .i64 s', .slice pb nb cb, .slice pf nf cf] 28)
  have HC := hide (fun W (h1 : NS W pa na c) (h2 : NS W pb nb c') => equalC_any pa pb na ca nb cb c c' W h1 h2)
  have HF := hide (fun W (h1 : ES W pe ne l) (h2 : ES W pf nf l') => equalF_any pe pf ne ce nf cf l l' W h1 h2)
  clear hN hN' hE hE'
  by_cases h1 : r = r'
  · by_cases h2 : s = s'
    · rcases hc : decide (c = c') with _ | _
      · have HE : Hid (false = sameB ((r, s), c, l) ((r', s'), c', l')) := by unfold Hid; symm; rw [← Bool.not_eq_true, sameB_iff]; rintro ⟨_, h, _⟩; exact (decide_eq_false_iff_not.1 hc) h
        rw [hc] at HC
        clear hc
        subst h1 h2
        go_enter Try.func13, Try.ntmps13
        go_wp2_with (go_at_call 35; refine (HC.out _ N1.out N2.out).mono ?_; rintro e u ⟨rfl, hb⟩)
        go_ret
        exact ⟨retB HE.out, bel_next HU.out hb⟩
      · have HE : Hid (decide (l = l') = sameB ((r, s), c, l) ((r', s'), c', l')) := by unfold Hid; have h := of_decide_eq_true hc; rw [Bool.eq_iff_iff, sameB_iff, decide_eq_true_iff]; simp [h1, h2, h]
        rw [hc] at HC
        clear hc
        subst h1 h2
        generalize decide (l = l') = bb at HF HE
        go_enter Try.func13, Try.ntmps13
        go_wp2_with (first
          | (go_at_call 35; refine (HC.out _ N1.out N2.out).mono ?_; rintro e u ⟨rfl, hb⟩; replace E1 := hide (E1.out.below hb); replace E2 := hide (E2.out.below hb); replace HU := hide (bel_next HU.out hb); have x3 := (X1.out.below hb).cell 3 _ rfl; have y3 := (X2.out.below hb).cell 3 _ rfl; clear hb)
          | (go_at_call 36; refine (HF.out _ E1.out E2.out).mono ?_; rintro e u2 ⟨rfl, hb⟩))
        go_ret
        exact ⟨retB HE.out, bel_next HU.out hb⟩
    · have HE : Hid (false = sameB ((r, s), c, l) ((r', s'), c', l')) := by unfold Hid; symm; rw [← Bool.not_eq_true, sameB_iff]; rintro ⟨⟨_, h⟩, _⟩; exact h2 h
      subst h1
      go_enter Try.func13, Try.ntmps13
      go_wp2
      go_ret
      exact ⟨retB HE.out, HU.out⟩
  · have HE : Hid (false = sameB ((r, s), c, l) ((r', s'), c', l')) := by unfold Hid; symm; rw [← Bool.not_eq_true, sameB_iff]; rintro ⟨⟨h, _⟩, _⟩; exact h1 h
    go_enter Try.func13, Try.ntmps13
    go_wp2
    go_ret
    exact ⟨retB HE.out, HU.out⟩
set_option maxHeartbeats 4000000 in
theorem SameR_evt (r s : Int) (pa : Option Addr) (na ca : Nat) (pe : Option Addr) (ne ce : Nat) (r' s' : Int) (pb : Option Addr) (nb cb : Nat) (pf : Option Addr) (nf cf : Nat) (c c' : List Int) (l m : List Eff) (w : World) (hN : NS w pa na c) (hN' : NS w pb nb c') (hE : ES w pe ne l) (hE' : ES w pf nf m) :
    Calls Try.prog 14 #[.agg #[.int .i64 r, .int .i64 s, .slice pa na ca, .slice pe ne ce], .agg #[.int .i64 r', .int .i64 s', .slice pb nb cb, .slice pf nf cf]] w fun e w' => e = .returned (.bool (sameB ((r, s), c, l) ((r', s'), c', m))) ∧ Below w.heap.size w w' := by
  have HU := hide (bel2 w (bxE r s pa na ca pe ne ce) (bxE r' s' pb nb cb pf nf cf))
  have N1 := hide ((hN.alloc (bxE r s pa na ca pe ne ce)).alloc (bxE r' s' pb nb cb pf nf cf))
  have N2 := hide ((hN'.alloc (bxE r s pa na ca pe ne ce)).alloc (bxE r' s' pb nb cb pf nf cf))
  have E1 := hide ((hE.alloc (bxE r s pa na ca pe ne ce)).alloc (bxE r' s' pb nb cb pf nf cf))
  have E2 := hide ((hE'.alloc (bxE r s pa na ca pe ne ce)).alloc (bxE r' s' pb nb cb pf nf cf))
  have X1 := hide ((BX.new w _ rfl #[.int .i64 r, .int .i64 s, .slice pa na ca, .slice pe ne ce] 28).alloc (bxE r' s' pb nb cb pf nf cf))
  have X2 := hide (BX.new (w.alloc (bxE r s pa na ca pe ne ce)) (w.heap.size + 1) (by simp) #[.int .i64 r', .int .i64 s', .slice pb nb cb, .slice pf nf cf] 28)
  have HC := hide (fun W (h1 : NS W pa na c) (h2 : NS W pb nb c') => same_any pa pb na ca nb cb c c' W h1 h2)
  have hmx := hE.1.2.1
  have hmy := hE'.1.2.1
  unfold maxLen at hmx hmy
  have HL := hide hE.1.1
  have HL' := hide hE'.1.1
  clear hN hN' hE hE'
  by_cases h1 : r = r'
  · by_cases h2 : s = s'
    · rcases hc : decide (c = c') with _ | _
      · have HE : Hid (false = sameB ((r, s), c, l) ((r', s'), c', m)) := by unfold Hid; symm; rw [← Bool.not_eq_true, sameB_iff]; rintro ⟨_, h, _⟩; exact (decide_eq_false_iff_not.1 hc) h
        rw [hc] at HC
        clear hc
        subst h1 h2
        go_enter Try.func14, Try.ntmps14
        go_wp2_with (go_at_call 37; refine (HC.out _ N1.out N2.out).mono ?_; rintro e u ⟨rfl, hb⟩)
        go_ret
        exact ⟨retB HE.out, bel_next HU.out hb⟩
      · have HQ0 : Hid (sameB ((r, s), c, l) ((r', s'), c', m) = decide (l = m)) := by unfold Hid; have h := of_decide_eq_true hc; rw [Bool.eq_iff_iff, sameB_iff, decide_eq_true_iff]; simp [h1, h2, h]
        rw [hc] at HC
        clear hc
        subst h1 h2
        by_cases hnn : ne = nf
        · subst hnn
          go_enter Try.func14, Try.ntmps14
          go_wp2_with (go_at_call 37; refine (HC.out _ N1.out N2.out).mono ?_; rintro e u ⟨rfl, hb⟩; have HE1 := hide (E1.out.below hb); have HE2 := hide (E2.out.below hb); have HV := hide (bel_next HU.out hb); have X1u := hide (X1.out.below hb); have X2u := hide (X2.out.below hb); have x3 := X1u.out.cell 3 _ rfl; have y3 := X2u.out.cell 3 _ rfl; clear hb N1 N2 E1 E2 X1 X2 HU)
          clear x3 y3
          go_loopw [5] (fun i wr => ∃ k : Nat, k ≤ ne ∧ i = .int .i64 k ∧ Hid (Below u.heap.size u wr) ∧ Hid ((l = m) ↔ (l.drop k = m.drop k))) (fun i _ => ne - (intOf i).toNat)
          case atStart => exact ⟨0, by omega, rfl, Below.refl _ _, by unfold Hid; simp⟩
          case round =>
            obtain ⟨k, hk, rfl, hB, hH⟩ := hrel
            by_cases hlt : k < ne
            · skip
              obtain ⟨x, hx⟩ : ∃ x, l[k]? = some x := ⟨_, List.getElem?_eq_getElem (by rw [HL.out]; exact hlt)⟩
              obtain ⟨y, hy⟩ : ∃ y, m[k]? = some y := ⟨_, List.getElem?_eq_getElem (by rw [HL'.out]; exact hlt)⟩
              rcases HE1.out.1.2.2 with h0 | ⟨b, off, rfl, _⟩
              · omega
              rcases HE2.out.1.2.2 with h0 | ⟨b', off', rfl, _⟩
              · omega
              obtain ⟨c0, c1, c2, c3, c4, c5⟩ := HE1.out.at k x hx
              obtain ⟨d0, d1, d2, d3, d4, d5⟩ := HE2.out.at k y hy
              replace c0 := bcell hB.out c0
              replace c1 := bcell hB.out c1
              replace c2 := bcell hB.out c2
              replace c3 := bcell hB.out c3
              replace c4 := bcell hB.out c4
              replace c5 := bcell hB.out c5
              replace d0 := bcell hB.out d0
              replace d1 := bcell hB.out d1
              replace d2 := bcell hB.out d2
              replace d3 := bcell hB.out d3
              replace d4 := bcell hB.out d4
              replace d5 := bcell hB.out d5
              have hst : Hid ((l = m) ↔ (x = y ∧ l.drop (k + 1) = m.drop (k + 1))) := by unfold Hid; rw [← eq_dropE hx hy]; exact hH.out
              have hxy := eff_eq x y (HE1.out.2 x (List.mem_of_getElem? hx)) (HE2.out.2 y (List.mem_of_getElem? hy))
              clear hx hy hH
              obtain ⟨xk, xo, xky, xn, xt, xw⟩ := x
              obtain ⟨yk, yo, yky, yn, yt, yw⟩ := y
              have HXY := hide hxy
              clear hxy
              simp only [] at HXY c0 c1 c2 c3 c4 c5 d0 d1 d2 d3 d4 d5
              generalize strOfNums xky = sk at *
              generalize strOfNums xw = sw at *
              generalize strOfNums yky = sk' at *
              generalize strOfNums yw = sw' at *
              have x3 := (X1u.out.below hB.out).cell 3 _ rfl
              have y3 := (X2u.out.below hB.out).cell 3 _ rfl
              by_cases q0 : xk = yk
              · skip
                by_cases q1 : xo = yo
                · skip
                  by_cases q2 : sk.toList = sk'.toList
                  · skip
                    by_cases q3 : xn = yn
                    · skip
                      by_cases q4 : xt = yt
                      · skip
                        by_cases q5 : sw.toList = sw'.toList
                        · skip
                          have hst2 : Hid ((l = m) ↔ (l.drop (k + 1) = m.drop (k + 1))) := by unfold Hid; rw [hst.out, HXY.out]; simp [q0, q1, q2, q3, q4, q5]
                          clear hst HXY
                          go_wp2
                          refine wp_region_held_drew (S := fun W => Below wr.heap.size wr W) (by kernel_rfl) ((Below.refl _ wr).drew) (fun hS0 => ?_)
                          refine takeInH 0 35 ?v64 rfl rfl (by kernel_rfl) (by kernel_rfl) (by kernel_rfl) (fun _ _ _ h => h) (by kernel_rfl) hS0 ?hy64 ?_
                          case hy64 => (intro W hW; clear hW; go_simp; try rfl)
                          simp only [Act.put, List.setIfInBounds_toArray, List.set_cons_zero, List.set_cons_succ]
                          refine takeInH 1 36 ?v65 rfl rfl (by kernel_rfl) (by kernel_rfl) (by kernel_rfl) (fun _ _ _ h => h) (by kernel_rfl) hS0 ?hy65 ?_
                          case hy65 => (intro W hW; have e0 := bcell hW c0; have e1 := bcell hW c1; have e2 := bcell hW c2; have e3 := bcell hW c3; have e4 := bcell hW c4; have e5 := bcell hW c5; have e6 := bcell hW d0; have e7 := bcell hW d1; have e8 := bcell hW d2; have e9 := bcell hW d3; have e10 := bcell hW d4; have e11 := bcell hW d5; have e12 := bcell hW x3; have e13 := bcell hW y3; clear hW; go_simp; try rfl)
                          simp only [Act.put, List.setIfInBounds_toArray, List.set_cons_zero, List.set_cons_succ]
                          refine takeInH 2 37 ?v66 rfl rfl (by kernel_rfl) (by kernel_rfl) (by kernel_rfl) (fun _ _ _ h => h) (by kernel_rfl) hS0 ?hy66 ?_
                          case hy66 => (intro W hW; clear hW; go_simp; try rfl)
                          simp only [Act.put, List.setIfInBounds_toArray, List.set_cons_zero, List.set_cons_succ]
                          refine takeInH 3 38 ?v67 rfl rfl (by kernel_rfl) (by kernel_rfl) (by kernel_rfl) (fun _ _ _ h => h) (by kernel_rfl) hS0 ?hy67 ?_
                          case hy67 => (intro W hW; clear hW; go_simp; try rfl)
                          simp only [Act.put, List.setIfInBounds_toArray, List.set_cons_zero, List.set_cons_succ]
                          refine takeInH 4 39 ?v68 rfl rfl (by kernel_rfl) (by kernel_rfl) (by kernel_rfl) (fun _ _ _ h => h) (by kernel_rfl) hS0 ?hy68 ?_
                          case hy68 => (intro W hW; have e0 := bcell hW c0; have e1 := bcell hW c1; have e2 := bcell hW c2; have e3 := bcell hW c3; have e4 := bcell hW c4; have e5 := bcell hW c5; have e6 := bcell hW d0; have e7 := bcell hW d1; have e8 := bcell hW d2; have e9 := bcell hW d3; have e10 := bcell hW d4; have e11 := bcell hW d5; have e12 := bcell hW x3; have e13 := bcell hW y3; clear hW; go_simp; try rfl)
                          simp only [Act.put, List.setIfInBounds_toArray, List.set_cons_zero, List.set_cons_succ]
                          refine takeInH 5 40 ?v69 rfl rfl (by kernel_rfl) (by kernel_rfl) (by kernel_rfl) (fun _ _ _ h => h) (by kernel_rfl) hS0 ?hy69 ?_
                          case hy69 => (intro W hW; clear hW; go_simp; try rfl)
                          simp only [Act.put, List.setIfInBounds_toArray, List.set_cons_zero, List.set_cons_succ]
                          refine takeInH 6 41 ?v70 rfl rfl (by kernel_rfl) (by kernel_rfl) (by kernel_rfl) (fun _ _ _ h => h) (by kernel_rfl) hS0 ?hy70 ?_
                          case hy70 => (intro W hW; have e0 := bcell hW c0; have e1 := bcell hW c1; have e2 := bcell hW c2; have e3 := bcell hW c3; have e4 := bcell hW c4; have e5 := bcell hW c5; have e6 := bcell hW d0; have e7 := bcell hW d1; have e8 := bcell hW d2; have e9 := bcell hW d3; have e10 := bcell hW d4; have e11 := bcell hW d5; have e12 := bcell hW x3; have e13 := bcell hW y3; clear hW; go_simp; try rfl)
                          simp only [Act.put, List.setIfInBounds_toArray, List.set_cons_zero, List.set_cons_succ]
                          refine takeInH 7 42 ?v71 rfl rfl (by kernel_rfl) (by kernel_rfl) (by kernel_rfl) (fun _ _ _ h => h) (by kernel_rfl) hS0 ?hy71 ?_
                          case hy71 => (intro W hW; clear hW; go_simp; try rfl)
                          simp only [Act.put, List.setIfInBounds_toArray, List.set_cons_zero, List.set_cons_succ]
                          refine takeInH 8 43 ?v72 rfl rfl (by kernel_rfl) (by kernel_rfl) (by kernel_rfl) (fun _ _ _ h => h) (by kernel_rfl) hS0 ?hy72 ?_
                          case hy72 => (intro W hW; clear hW; go_simp; try rfl)
                          simp only [Act.put, List.setIfInBounds_toArray, List.set_cons_zero, List.set_cons_succ]
                          refine takeInH 9 44 ?v73 rfl rfl (by kernel_rfl) (by kernel_rfl) (by kernel_rfl) (fun _ _ _ h => h) (by kernel_rfl) hS0 ?hy73 ?_
                          case hy73 => (intro W hW; have e0 := bcell hW c0; have e1 := bcell hW c1; have e2 := bcell hW c2; have e3 := bcell hW c3; have e4 := bcell hW c4; have e5 := bcell hW c5; have e6 := bcell hW d0; have e7 := bcell hW d1; have e8 := bcell hW d2; have e9 := bcell hW d3; have e10 := bcell hW d4; have e11 := bcell hW d5; have e12 := bcell hW x3; have e13 := bcell hW y3; clear hW; go_simp; try rfl)
                          simp only [Act.put, List.setIfInBounds_toArray, List.set_cons_zero, List.set_cons_succ]
                          refine takeInH 10 45 ?v74 rfl rfl (by kernel_rfl) (by kernel_rfl) (by kernel_rfl) (fun _ _ _ h => h) (by kernel_rfl) hS0 ?hy74 ?_
                          case hy74 => (intro W hW; clear hW; go_simp; try rfl)
                          simp only [Act.put, List.setIfInBounds_toArray, List.set_cons_zero, List.set_cons_succ]
                          refine wpAnyH_done (by kernel_rfl) ?_ _
                          go_wp2
                          go_roundw
                          case rel => exact ⟨k + 1, by omega, by go_num, bel_next hB.out (by assumption), hst2⟩
                          case measure => simp [intOf]; omega
                        · skip
                          have HE : Hid (false = sameB ((r, s), c, l) ((r, s), c', m)) := by unfold Hid; rw [HQ0.out]; symm; rw [decide_eq_false_iff_not, hst.out, HXY.out]; rintro ⟨⟨h0, h1, h2, h3, h4, h5⟩, _⟩; contradiction
                          clear hst HXY
                          go_wp2
                          refine wp_region_held_drew (S := fun W => Below wr.heap.size wr W) (by kernel_rfl) ((Below.refl _ wr).drew) (fun hS0 => ?_)
                          refine takeInH 0 35 ?v75 rfl rfl (by kernel_rfl) (by kernel_rfl) (by kernel_rfl) (fun _ _ _ h => h) (by kernel_rfl) hS0 ?hy75 ?_
                          case hy75 => (intro W hW; clear hW; go_simp; try rfl)
                          simp only [Act.put, List.setIfInBounds_toArray, List.set_cons_zero, List.set_cons_succ]
                          refine takeInH 1 36 ?v76 rfl rfl (by kernel_rfl) (by kernel_rfl) (by kernel_rfl) (fun _ _ _ h => h) (by kernel_rfl) hS0 ?hy76 ?_
                          case hy76 => (intro W hW; have e0 := bcell hW c0; have e1 := bcell hW c1; have e2 := bcell hW c2; have e3 := bcell hW c3; have e4 := bcell hW c4; have e5 := bcell hW c5; have e6 := bcell hW d0; have e7 := bcell hW d1; have e8 := bcell hW d2; have e9 := bcell hW d3; have e10 := bcell hW d4; have e11 := bcell hW d5; have e12 := bcell hW x3; have e13 := bcell hW y3; clear hW; go_simp; try rfl)
                          simp only [Act.put, List.setIfInBounds_toArray, List.set_cons_zero, List.set_cons_succ]
                          refine takeInH 2 37 ?v77 rfl rfl (by kernel_rfl) (by kernel_rfl) (by kernel_rfl) (fun _ _ _ h => h) (by kernel_rfl) hS0 ?hy77 ?_
                          case hy77 => (intro W hW; clear hW; go_simp; try rfl)
                          simp only [Act.put, List.setIfInBounds_toArray, List.set_cons_zero, List.set_cons_succ]
                          refine takeInH 3 38 ?v78 rfl rfl (by kernel_rfl) (by kernel_rfl) (by kernel_rfl) (fun _ _ _ h => h) (by kernel_rfl) hS0 ?hy78 ?_
                          case hy78 => (intro W hW; clear hW; go_simp; try rfl)
                          simp only [Act.put, List.setIfInBounds_toArray, List.set_cons_zero, List.set_cons_succ]
                          refine takeInH 4 39 ?v79 rfl rfl (by kernel_rfl) (by kernel_rfl) (by kernel_rfl) (fun _ _ _ h => h) (by kernel_rfl) hS0 ?hy79 ?_
                          case hy79 => (intro W hW; have e0 := bcell hW c0; have e1 := bcell hW c1; have e2 := bcell hW c2; have e3 := bcell hW c3; have e4 := bcell hW c4; have e5 := bcell hW c5; have e6 := bcell hW d0; have e7 := bcell hW d1; have e8 := bcell hW d2; have e9 := bcell hW d3; have e10 := bcell hW d4; have e11 := bcell hW d5; have e12 := bcell hW x3; have e13 := bcell hW y3; clear hW; go_simp; try rfl)
                          simp only [Act.put, List.setIfInBounds_toArray, List.set_cons_zero, List.set_cons_succ]
                          refine takeInH 5 40 ?v80 rfl rfl (by kernel_rfl) (by kernel_rfl) (by kernel_rfl) (fun _ _ _ h => h) (by kernel_rfl) hS0 ?hy80 ?_
                          case hy80 => (intro W hW; clear hW; go_simp; try rfl)
                          simp only [Act.put, List.setIfInBounds_toArray, List.set_cons_zero, List.set_cons_succ]
                          refine takeInH 6 41 ?v81 rfl rfl (by kernel_rfl) (by kernel_rfl) (by kernel_rfl) (fun _ _ _ h => h) (by kernel_rfl) hS0 ?hy81 ?_
                          case hy81 => (intro W hW; have e0 := bcell hW c0; have e1 := bcell hW c1; have e2 := bcell hW c2; have e3 := bcell hW c3; have e4 := bcell hW c4; have e5 := bcell hW c5; have e6 := bcell hW d0; have e7 := bcell hW d1; have e8 := bcell hW d2; have e9 := bcell hW d3; have e10 := bcell hW d4; have e11 := bcell hW d5; have e12 := bcell hW x3; have e13 := bcell hW y3; clear hW; go_simp; try rfl)
                          simp only [Act.put, List.setIfInBounds_toArray, List.set_cons_zero, List.set_cons_succ]
                          refine takeInH 7 42 ?v82 rfl rfl (by kernel_rfl) (by kernel_rfl) (by kernel_rfl) (fun _ _ _ h => h) (by kernel_rfl) hS0 ?hy82 ?_
                          case hy82 => (intro W hW; clear hW; go_simp; try rfl)
                          simp only [Act.put, List.setIfInBounds_toArray, List.set_cons_zero, List.set_cons_succ]
                          refine takeInH 8 43 ?v83 rfl rfl (by kernel_rfl) (by kernel_rfl) (by kernel_rfl) (fun _ _ _ h => h) (by kernel_rfl) hS0 ?hy83 ?_
                          case hy83 => (intro W hW; clear hW; go_simp; try rfl)
                          simp only [Act.put, List.setIfInBounds_toArray, List.set_cons_zero, List.set_cons_succ]
                          refine takeInH 9 44 ?v84 rfl rfl (by kernel_rfl) (by kernel_rfl) (by kernel_rfl) (fun _ _ _ h => h) (by kernel_rfl) hS0 ?hy84 ?_
                          case hy84 => (intro W hW; have e0 := bcell hW c0; have e1 := bcell hW c1; have e2 := bcell hW c2; have e3 := bcell hW c3; have e4 := bcell hW c4; have e5 := bcell hW c5; have e6 := bcell hW d0; have e7 := bcell hW d1; have e8 := bcell hW d2; have e9 := bcell hW d3; have e10 := bcell hW d4; have e11 := bcell hW d5; have e12 := bcell hW x3; have e13 := bcell hW y3; clear hW; go_simp; try rfl)
                          simp only [Act.put, List.setIfInBounds_toArray, List.set_cons_zero, List.set_cons_succ]
                          refine takeInH 10 45 ?v85 rfl rfl (by kernel_rfl) (by kernel_rfl) (by kernel_rfl) (fun _ _ _ h => h) (by kernel_rfl) hS0 ?hy85 ?_
                          case hy85 => (intro W hW; clear hW; go_simp; try rfl)
                          simp only [Act.put, List.setIfInBounds_toArray, List.set_cons_zero, List.set_cons_succ]
                          refine wpAnyH_done (by kernel_rfl) ?_ _
                          go_wp2
                          go_ret
                          exact ⟨retB HE.out, bel_next HV.out (bel_next hB.out (by assumption))⟩
                      · skip
                        have HE : Hid (false = sameB ((r, s), c, l) ((r, s), c', m)) := by unfold Hid; rw [HQ0.out]; symm; rw [decide_eq_false_iff_not, hst.out, HXY.out]; rintro ⟨⟨h0, h1, h2, h3, h4, h5⟩, _⟩; contradiction
                        clear hst HXY
                        go_wp2
                        refine wp_region_held_drew (S := fun W => Below wr.heap.size wr W) (by kernel_rfl) ((Below.refl _ wr).drew) (fun hS0 => ?_)
                        refine takeInH 0 35 ?v86 rfl rfl (by kernel_rfl) (by kernel_rfl) (by kernel_rfl) (fun _ _ _ h => h) (by kernel_rfl) hS0 ?hy86 ?_
                        case hy86 => (intro W hW; clear hW; go_simp; try rfl)
                        simp only [Act.put, List.setIfInBounds_toArray, List.set_cons_zero, List.set_cons_succ]
                        refine takeInH 1 36 ?v87 rfl rfl (by kernel_rfl) (by kernel_rfl) (by kernel_rfl) (fun _ _ _ h => h) (by kernel_rfl) hS0 ?hy87 ?_
                        case hy87 => (intro W hW; have e0 := bcell hW c0; have e1 := bcell hW c1; have e2 := bcell hW c2; have e3 := bcell hW c3; have e4 := bcell hW c4; have e5 := bcell hW c5; have e6 := bcell hW d0; have e7 := bcell hW d1; have e8 := bcell hW d2; have e9 := bcell hW d3; have e10 := bcell hW d4; have e11 := bcell hW d5; have e12 := bcell hW x3; have e13 := bcell hW y3; clear hW; go_simp; try rfl)
                        simp only [Act.put, List.setIfInBounds_toArray, List.set_cons_zero, List.set_cons_succ]
                        refine takeInH 2 37 ?v88 rfl rfl (by kernel_rfl) (by kernel_rfl) (by kernel_rfl) (fun _ _ _ h => h) (by kernel_rfl) hS0 ?hy88 ?_
                        case hy88 => (intro W hW; clear hW; go_simp; try rfl)
                        simp only [Act.put, List.setIfInBounds_toArray, List.set_cons_zero, List.set_cons_succ]
                        refine takeInH 3 38 ?v89 rfl rfl (by kernel_rfl) (by kernel_rfl) (by kernel_rfl) (fun _ _ _ h => h) (by kernel_rfl) hS0 ?hy89 ?_
                        case hy89 => (intro W hW; clear hW; go_simp; try rfl)
                        simp only [Act.put, List.setIfInBounds_toArray, List.set_cons_zero, List.set_cons_succ]
                        refine takeInH 4 39 ?v90 rfl rfl (by kernel_rfl) (by kernel_rfl) (by kernel_rfl) (fun _ _ _ h => h) (by kernel_rfl) hS0 ?hy90 ?_
                        case hy90 => (intro W hW; have e0 := bcell hW c0; have e1 := bcell hW c1; have e2 := bcell hW c2; have e3 := bcell hW c3; have e4 := bcell hW c4; have e5 := bcell hW c5; have e6 := bcell hW d0; have e7 := bcell hW d1; have e8 := bcell hW d2; have e9 := bcell hW d3; have e10 := bcell hW d4; have e11 := bcell hW d5; have e12 := bcell hW x3; have e13 := bcell hW y3; clear hW; go_simp; try rfl)
                        simp only [Act.put, List.setIfInBounds_toArray, List.set_cons_zero, List.set_cons_succ]
                        refine takeInH 5 40 ?v91 rfl rfl (by kernel_rfl) (by kernel_rfl) (by kernel_rfl) (fun _ _ _ h => h) (by kernel_rfl) hS0 ?hy91 ?_
                        case hy91 => (intro W hW; clear hW; go_simp; try rfl)
                        simp only [Act.put, List.setIfInBounds_toArray, List.set_cons_zero, List.set_cons_succ]
                        refine takeInH 6 41 ?v92 rfl rfl (by kernel_rfl) (by kernel_rfl) (by kernel_rfl) (fun _ _ _ h => h) (by kernel_rfl) hS0 ?hy92 ?_
                        case hy92 => (intro W hW; have e0 := bcell hW c0; have e1 := bcell hW c1; have e2 := bcell hW c2; have e3 := bcell hW c3; have e4 := bcell hW c4; have e5 := bcell hW c5; have e6 := bcell hW d0; have e7 := bcell hW d1; have e8 := bcell hW d2; have e9 := bcell hW d3; have e10 := bcell hW d4; have e11 := bcell hW d5; have e12 := bcell hW x3; have e13 := bcell hW y3; clear hW; go_simp; try rfl)
                        simp only [Act.put, List.setIfInBounds_toArray, List.set_cons_zero, List.set_cons_succ]
                        refine takeInH 7 42 ?v93 rfl rfl (by kernel_rfl) (by kernel_rfl) (by kernel_rfl) (fun _ _ _ h => h) (by kernel_rfl) hS0 ?hy93 ?_
                        case hy93 => (intro W hW; clear hW; go_simp; try rfl)
                        simp only [Act.put, List.setIfInBounds_toArray, List.set_cons_zero, List.set_cons_succ]
                        refine takeInH 8 43 ?v94 rfl rfl (by kernel_rfl) (by kernel_rfl) (by kernel_rfl) (fun _ _ _ h => h) (by kernel_rfl) hS0 ?hy94 ?_
                        case hy94 => (intro W hW; clear hW; go_simp; try rfl)
                        simp only [Act.put, List.setIfInBounds_toArray, List.set_cons_zero, List.set_cons_succ]
                        refine takeInH 9 44 ?v95 rfl rfl (by kernel_rfl) (by kernel_rfl) (by kernel_rfl) (fun _ _ _ h => h) (by kernel_rfl) hS0 ?hy95 ?_
                        case hy95 => (intro W hW; have e0 := bcell hW c0; have e1 := bcell hW c1; have e2 := bcell hW c2; have e3 := bcell hW c3; have e4 := bcell hW c4; have e5 := bcell hW c5; have e6 := bcell hW d0; have e7 := bcell hW d1; have e8 := bcell hW d2; have e9 := bcell hW d3; have e10 := bcell hW d4; have e11 := bcell hW d5; have e12 := bcell hW x3; have e13 := bcell hW y3; clear hW; go_simp; try rfl)
                        simp only [Act.put, List.setIfInBounds_toArray, List.set_cons_zero, List.set_cons_succ]
                        refine takeInH 10 45 ?v96 rfl rfl (by kernel_rfl) (by kernel_rfl) (by kernel_rfl) (fun _ _ _ h => h) (by kernel_rfl) hS0 ?hy96 ?_
                        case hy96 => (intro W hW; clear hW; go_simp; try rfl)
                        simp only [Act.put, List.setIfInBounds_toArray, List.set_cons_zero, List.set_cons_succ]
                        refine wpAnyH_done (by kernel_rfl) ?_ _
                        go_wp2
                        go_ret
                        exact ⟨retB HE.out, bel_next HV.out (bel_next hB.out (by assumption))⟩
                    · skip
                      have HE : Hid (false = sameB ((r, s), c, l) ((r, s), c', m)) := by unfold Hid; rw [HQ0.out]; symm; rw [decide_eq_false_iff_not, hst.out, HXY.out]; rintro ⟨⟨h0, h1, h2, h3, h4, h5⟩, _⟩; contradiction
                      clear hst HXY
                      go_wp2
                      refine wp_region_held_drew (S := fun W => Below wr.heap.size wr W) (by kernel_rfl) ((Below.refl _ wr).drew) (fun hS0 => ?_)
                      refine takeInH 0 35 ?v97 rfl rfl (by kernel_rfl) (by kernel_rfl) (by kernel_rfl) (fun _ _ _ h => h) (by kernel_rfl) hS0 ?hy97 ?_
                      case hy97 => (intro W hW; clear hW; go_simp; try rfl)
                      simp only [Act.put, List.setIfInBounds_toArray, List.set_cons_zero, List.set_cons_succ]
                      refine takeInH 1 36 ?v98 rfl rfl (by kernel_rfl) (by kernel_rfl) (by kernel_rfl) (fun _ _ _ h => h) (by kernel_rfl) hS0 ?hy98 ?_
                      case hy98 => (intro W hW; have e0 := bcell hW c0; have e1 := bcell hW c1; have e2 := bcell hW c2; have e3 := bcell hW c3; have e4 := bcell hW c4; have e5 := bcell hW c5; have e6 := bcell hW d0; have e7 := bcell hW d1; have e8 := bcell hW d2; have e9 := bcell hW d3; have e10 := bcell hW d4; have e11 := bcell hW d5; have e12 := bcell hW x3; have e13 := bcell hW y3; clear hW; go_simp; try rfl)
                      simp only [Act.put, List.setIfInBounds_toArray, List.set_cons_zero, List.set_cons_succ]
                      refine takeInH 2 37 ?v99 rfl rfl (by kernel_rfl) (by kernel_rfl) (by kernel_rfl) (fun _ _ _ h => h) (by kernel_rfl) hS0 ?hy99 ?_
                      case hy99 => (intro W hW; clear hW; go_simp; try rfl)
                      simp only [Act.put, List.setIfInBounds_toArray, List.set_cons_zero, List.set_cons_succ]
                      refine takeInH 3 38 ?v100 rfl rfl (by kernel_rfl) (by kernel_rfl) (by kernel_rfl) (fun _ _ _ h => h) (by kernel_rfl) hS0 ?hy100 ?_
                      case hy100 => (intro W hW; clear hW; go_simp; try rfl)
                      simp only [Act.put, List.setIfInBounds_toArray, List.set_cons_zero, List.set_cons_succ]
                      refine takeInH 4 39 ?v101 rfl rfl (by kernel_rfl) (by kernel_rfl) (by kernel_rfl) (fun _ _ _ h => h) (by kernel_rfl) hS0 ?hy101 ?_
                      case hy101 => (intro W hW; have e0 := bcell hW c0; have e1 := bcell hW c1; have e2 := bcell hW c2; have e3 := bcell hW c3; have e4 := bcell hW c4; have e5 := bcell hW c5; have e6 := bcell hW d0; have e7 := bcell hW d1; have e8 := bcell hW d2; have e9 := bcell hW d3; have e10 := bcell hW d4; have e11 := bcell hW d5; have e12 := bcell hW x3; have e13 := bcell hW y3; clear hW; go_simp; try rfl)
                      simp only [Act.put, List.setIfInBounds_toArray, List.set_cons_zero, List.set_cons_succ]
                      refine takeInH 5 40 ?v102 rfl rfl (by kernel_rfl) (by kernel_rfl) (by kernel_rfl) (fun _ _ _ h => h) (by kernel_rfl) hS0 ?hy102 ?_
                      case hy102 => (intro W hW; clear hW; go_simp; try rfl)
                      simp only [Act.put, List.setIfInBounds_toArray, List.set_cons_zero, List.set_cons_succ]
                      refine takeInH 6 41 ?v103 rfl rfl (by kernel_rfl) (by kernel_rfl) (by kernel_rfl) (fun _ _ _ h => h) (by kernel_rfl) hS0 ?hy103 ?_
                      case hy103 => (intro W hW; have e0 := bcell hW c0; have e1 := bcell hW c1; have e2 := bcell hW c2; have e3 := bcell hW c3; have e4 := bcell hW c4; have e5 := bcell hW c5; have e6 := bcell hW d0; have e7 := bcell hW d1; have e8 := bcell hW d2; have e9 := bcell hW d3; have e10 := bcell hW d4; have e11 := bcell hW d5; have e12 := bcell hW x3; have e13 := bcell hW y3; clear hW; go_simp; try rfl)
                      simp only [Act.put, List.setIfInBounds_toArray, List.set_cons_zero, List.set_cons_succ]
                      refine takeInH 7 42 ?v104 rfl rfl (by kernel_rfl) (by kernel_rfl) (by kernel_rfl) (fun _ _ _ h => h) (by kernel_rfl) hS0 ?hy104 ?_
                      case hy104 => (intro W hW; clear hW; go_simp; try rfl)
                      simp only [Act.put, List.setIfInBounds_toArray, List.set_cons_zero, List.set_cons_succ]
                      refine takeInH 8 43 ?v105 rfl rfl (by kernel_rfl) (by kernel_rfl) (by kernel_rfl) (fun _ _ _ h => h) (by kernel_rfl) hS0 ?hy105 ?_
                      case hy105 => (intro W hW; clear hW; go_simp; try rfl)
                      simp only [Act.put, List.setIfInBounds_toArray, List.set_cons_zero, List.set_cons_succ]
                      refine takeInH 9 44 ?v106 rfl rfl (by kernel_rfl) (by kernel_rfl) (by kernel_rfl) (fun _ _ _ h => h) (by kernel_rfl) hS0 ?hy106 ?_
                      case hy106 => (intro W hW; have e0 := bcell hW c0; have e1 := bcell hW c1; have e2 := bcell hW c2; have e3 := bcell hW c3; have e4 := bcell hW c4; have e5 := bcell hW c5; have e6 := bcell hW d0; have e7 := bcell hW d1; have e8 := bcell hW d2; have e9 := bcell hW d3; have e10 := bcell hW d4; have e11 := bcell hW d5; have e12 := bcell hW x3; have e13 := bcell hW y3; clear hW; go_simp; try rfl)
                      simp only [Act.put, List.setIfInBounds_toArray, List.set_cons_zero, List.set_cons_succ]
                      refine takeInH 10 45 ?v107 rfl rfl (by kernel_rfl) (by kernel_rfl) (by kernel_rfl) (fun _ _ _ h => h) (by kernel_rfl) hS0 ?hy107 ?_
                      case hy107 => (intro W hW; clear hW; go_simp; try rfl)
                      simp only [Act.put, List.setIfInBounds_toArray, List.set_cons_zero, List.set_cons_succ]
                      refine wpAnyH_done (by kernel_rfl) ?_ _
                      go_wp2
                      go_ret
                      exact ⟨retB HE.out, bel_next HV.out (bel_next hB.out (by assumption))⟩
                  · skip
                    have HE : Hid (false = sameB ((r, s), c, l) ((r, s), c', m)) := by unfold Hid; rw [HQ0.out]; symm; rw [decide_eq_false_iff_not, hst.out, HXY.out]; rintro ⟨⟨h0, h1, h2, h3, h4, h5⟩, _⟩; contradiction
                    clear hst HXY
                    go_wp2
                    refine wp_region_held_drew (S := fun W => Below wr.heap.size wr W) (by kernel_rfl) ((Below.refl _ wr).drew) (fun hS0 => ?_)
                    refine takeInH 0 35 ?v108 rfl rfl (by kernel_rfl) (by kernel_rfl) (by kernel_rfl) (fun _ _ _ h => h) (by kernel_rfl) hS0 ?hy108 ?_
                    case hy108 => (intro W hW; clear hW; go_simp; try rfl)
                    simp only [Act.put, List.setIfInBounds_toArray, List.set_cons_zero, List.set_cons_succ]
                    refine takeInH 1 36 ?v109 rfl rfl (by kernel_rfl) (by kernel_rfl) (by kernel_rfl) (fun _ _ _ h => h) (by kernel_rfl) hS0 ?hy109 ?_
                    case hy109 => (intro W hW; have e0 := bcell hW c0; have e1 := bcell hW c1; have e2 := bcell hW c2; have e3 := bcell hW c3; have e4 := bcell hW c4; have e5 := bcell hW c5; have e6 := bcell hW d0; have e7 := bcell hW d1; have e8 := bcell hW d2; have e9 := bcell hW d3; have e10 := bcell hW d4; have e11 := bcell hW d5; have e12 := bcell hW x3; have e13 := bcell hW y3; clear hW; go_simp; try rfl)
                    simp only [Act.put, List.setIfInBounds_toArray, List.set_cons_zero, List.set_cons_succ]
                    refine takeInH 2 37 ?v110 rfl rfl (by kernel_rfl) (by kernel_rfl) (by kernel_rfl) (fun _ _ _ h => h) (by kernel_rfl) hS0 ?hy110 ?_
                    case hy110 => (intro W hW; clear hW; go_simp; try rfl)
                    simp only [Act.put, List.setIfInBounds_toArray, List.set_cons_zero, List.set_cons_succ]
                    refine takeInH 3 38 ?v111 rfl rfl (by kernel_rfl) (by kernel_rfl) (by kernel_rfl) (fun _ _ _ h => h) (by kernel_rfl) hS0 ?hy111 ?_
                    case hy111 => (intro W hW; clear hW; go_simp; try rfl)
                    simp only [Act.put, List.setIfInBounds_toArray, List.set_cons_zero, List.set_cons_succ]
                    refine takeInH 4 39 ?v112 rfl rfl (by kernel_rfl) (by kernel_rfl) (by kernel_rfl) (fun _ _ _ h => h) (by kernel_rfl) hS0 ?hy112 ?_
                    case hy112 => (intro W hW; have e0 := bcell hW c0; have e1 := bcell hW c1; have e2 := bcell hW c2; have e3 := bcell hW c3; have e4 := bcell hW c4; have e5 := bcell hW c5; have e6 := bcell hW d0; have e7 := bcell hW d1; have e8 := bcell hW d2; have e9 := bcell hW d3; have e10 := bcell hW d4; have e11 := bcell hW d5; have e12 := bcell hW x3; have e13 := bcell hW y3; clear hW; go_simp; try rfl)
                    simp only [Act.put, List.setIfInBounds_toArray, List.set_cons_zero, List.set_cons_succ]
                    refine takeInH 5 40 ?v113 rfl rfl (by kernel_rfl) (by kernel_rfl) (by kernel_rfl) (fun _ _ _ h => h) (by kernel_rfl) hS0 ?hy113 ?_
                    case hy113 => (intro W hW; clear hW; go_simp; try rfl)
                    simp only [Act.put, List.setIfInBounds_toArray, List.set_cons_zero, List.set_cons_succ]
                    refine takeInH 6 41 ?v114 rfl rfl (by kernel_rfl) (by kernel_rfl) (by kernel_rfl) (fun _ _ _ h => h) (by kernel_rfl) hS0 ?hy114 ?_
                    case hy114 => (intro W hW; have e0 := bcell hW c0; have e1 := bcell hW c1; have e2 := bcell hW c2; have e3 := bcell hW c3; have e4 := bcell hW c4; have e5 := bcell hW c5; have e6 := bcell hW d0; have e7 := bcell hW d1; have e8 := bcell hW d2; have e9 := bcell hW d3; have e10 := bcell hW d4; have e11 := bcell hW d5; have e12 := bcell hW x3; have e13 := bcell hW y3; clear hW; go_simp; try rfl)
                    simp only [Act.put, List.setIfInBounds_toArray, List.set_cons_zero, List.set_cons_succ]
                    refine takeInH 7 42 ?v115 rfl rfl (by kernel_rfl) (by kernel_rfl) (by kernel_rfl) (fun _ _ _ h => h) (by kernel_rfl) hS0 ?hy115 ?_
                    case hy115 => (intro W hW; clear hW; go_simp; try rfl)
                    simp only [Act.put, List.setIfInBounds_toArray, List.set_cons_zero, List.set_cons_succ]
                    refine takeInH 8 43 ?v116 rfl rfl (by kernel_rfl) (by kernel_rfl) (by kernel_rfl) (fun _ _ _ h => h) (by kernel_rfl) hS0 ?hy116 ?_
                    case hy116 => (intro W hW; clear hW; go_simp; try rfl)
                    simp only [Act.put, List.setIfInBounds_toArray, List.set_cons_zero, List.set_cons_succ]
                    refine takeInH 9 44 ?v117 rfl rfl (by kernel_rfl) (by kernel_rfl) (by kernel_rfl) (fun _ _ _ h => h) (by kernel_rfl) hS0 ?hy117 ?_
                    case hy117 => (intro W hW; have e0 := bcell hW c0; have e1 := bcell hW c1; have e2 := bcell hW c2; have e3 := bcell hW c3; have e4 := bcell hW c4; have e5 := bcell hW c5; have e6 := bcell hW d0; have e7 := bcell hW d1; have e8 := bcell hW d2; have e9 := bcell hW d3; have e10 := bcell hW d4; have e11 := bcell hW d5; have e12 := bcell hW x3; have e13 := bcell hW y3; clear hW; go_simp; try rfl)
                    simp only [Act.put, List.setIfInBounds_toArray, List.set_cons_zero, List.set_cons_succ]
                    refine takeInH 10 45 ?v118 rfl rfl (by kernel_rfl) (by kernel_rfl) (by kernel_rfl) (fun _ _ _ h => h) (by kernel_rfl) hS0 ?hy118 ?_
                    case hy118 => (intro W hW; clear hW; go_simp; try rfl)
                    simp only [Act.put, List.setIfInBounds_toArray, List.set_cons_zero, List.set_cons_succ]
                    refine wpAnyH_done (by kernel_rfl) ?_ _
                    go_wp2
                    go_ret
                    exact ⟨retB HE.out, bel_next HV.out (bel_next hB.out (by assumption))⟩
                · skip
                  have HE : Hid (false = sameB ((r, s), c, l) ((r, s), c', m)) := by unfold Hid; rw [HQ0.out]; symm; rw [decide_eq_false_iff_not, hst.out, HXY.out]; rintro ⟨⟨h0, h1, h2, h3, h4, h5⟩, _⟩; contradiction
                  clear hst HXY
                  go_wp2
                  refine wp_region_held_drew (S := fun W => Below wr.heap.size wr W) (by kernel_rfl) ((Below.refl _ wr).drew) (fun hS0 => ?_)
                  refine takeInH 0 35 ?v119 rfl rfl (by kernel_rfl) (by kernel_rfl) (by kernel_rfl) (fun _ _ _ h => h) (by kernel_rfl) hS0 ?hy119 ?_
                  case hy119 => (intro W hW; clear hW; go_simp; try rfl)
                  simp only [Act.put, List.setIfInBounds_toArray, List.set_cons_zero, List.set_cons_succ]
                  refine takeInH 1 36 ?v120 rfl rfl (by kernel_rfl) (by kernel_rfl) (by kernel_rfl) (fun _ _ _ h => h) (by kernel_rfl) hS0 ?hy120 ?_
                  case hy120 => (intro W hW; have e0 := bcell hW c0; have e1 := bcell hW c1; have e2 := bcell hW c2; have e3 := bcell hW c3; have e4 := bcell hW c4; have e5 := bcell hW c5; have e6 := bcell hW d0; have e7 := bcell hW d1; have e8 := bcell hW d2; have e9 := bcell hW d3; have e10 := bcell hW d4; have e11 := bcell hW d5; have e12 := bcell hW x3; have e13 := bcell hW y3; clear hW; go_simp; try rfl)
                  simp only [Act.put, List.setIfInBounds_toArray, List.set_cons_zero, List.set_cons_succ]
                  refine takeInH 2 37 ?v121 rfl rfl (by kernel_rfl) (by kernel_rfl) (by kernel_rfl) (fun _ _ _ h => h) (by kernel_rfl) hS0 ?hy121 ?_
                  case hy121 => (intro W hW; clear hW; go_simp; try rfl)
                  simp only [Act.put, List.setIfInBounds_toArray, List.set_cons_zero, List.set_cons_succ]
                  refine takeInH 3 38 ?v122 rfl rfl (by kernel_rfl) (by kernel_rfl) (by kernel_rfl) (fun _ _ _ h => h) (by kernel_rfl) hS0 ?hy122 ?_
                  case hy122 => (intro W hW; clear hW; go_simp; try rfl)
                  simp only [Act.put, List.setIfInBounds_toArray, List.set_cons_zero, List.set_cons_succ]
                  refine takeInH 4 39 ?v123 rfl rfl (by kernel_rfl) (by kernel_rfl) (by kernel_rfl) (fun _ _ _ h => h) (by kernel_rfl) hS0 ?hy123 ?_
                  case hy123 => (intro W hW; have e0 := bcell hW c0; have e1 := bcell hW c1; have e2 := bcell hW c2; have e3 := bcell hW c3; have e4 := bcell hW c4; have e5 := bcell hW c5; have e6 := bcell hW d0; have e7 := bcell hW d1; have e8 := bcell hW d2; have e9 := bcell hW d3; have e10 := bcell hW d4; have e11 := bcell hW d5; have e12 := bcell hW x3; have e13 := bcell hW y3; clear hW; go_simp; try rfl)
                  simp only [Act.put, List.setIfInBounds_toArray, List.set_cons_zero, List.set_cons_succ]
                  refine takeInH 5 40 ?v124 rfl rfl (by kernel_rfl) (by kernel_rfl) (by kernel_rfl) (fun _ _ _ h => h) (by kernel_rfl) hS0 ?hy124 ?_
                  case hy124 => (intro W hW; clear hW; go_simp; try rfl)
                  simp only [Act.put, List.setIfInBounds_toArray, List.set_cons_zero, List.set_cons_succ]
                  refine takeInH 6 41 ?v125 rfl rfl (by kernel_rfl) (by kernel_rfl) (by kernel_rfl) (fun _ _ _ h => h) (by kernel_rfl) hS0 ?hy125 ?_
                  case hy125 => (intro W hW; have e0 := bcell hW c0; have e1 := bcell hW c1; have e2 := bcell hW c2; have e3 := bcell hW c3; have e4 := bcell hW c4; have e5 := bcell hW c5; have e6 := bcell hW d0; have e7 := bcell hW d1; have e8 := bcell hW d2; have e9 := bcell hW d3; have e10 := bcell hW d4; have e11 := bcell hW d5; have e12 := bcell hW x3; have e13 := bcell hW y3; clear hW; go_simp; try rfl)
                  simp only [Act.put, List.setIfInBounds_toArray, List.set_cons_zero, List.set_cons_succ]
                  refine takeInH 7 42 ?v126 rfl rfl (by kernel_rfl) (by kernel_rfl) (by kernel_rfl) (fun _ _ _ h => h) (by kernel_rfl) hS0 ?hy126 ?_
                  case hy126 => (intro W hW; clear hW; go_simp; try rfl)
                  simp only [Act.put, List.setIfInBounds_toArray, List.set_cons_zero, List.set_cons_succ]
                  refine takeInH 8 43 ?v127 rfl rfl (by kernel_rfl) (by kernel_rfl) (by kernel_rfl) (fun _ _ _ h => h) (by kernel_rfl) hS0 ?hy127 ?_
                  case hy127 => (intro W hW; clear hW; go_simp; try rfl)
                  simp only [Act.put, List.setIfInBounds_toArray, List.set_cons_zero, List.set_cons_succ]
                  refine takeInH 9 44 ?v128 rfl rfl (by kernel_rfl) (by kernel_rfl) (by kernel_rfl) (fun _ _ _ h => h) (by kernel_rfl) hS0 ?hy128 ?_
                  case hy128 => (intro W hW; have e0 := bcell hW c0; have e1 := bcell hW c1; have e2 := bcell hW c2; have e3 := bcell hW c3; have e4 := bcell hW c4; have e5 := bcell hW c5; have e6 := bcell hW d0; have e7 := bcell hW d1; have e8 := bcell hW d2; have e9 := bcell hW d3; have e10 := bcell hW d4; have e11 := bcell hW d5; have e12 := bcell hW x3; have e13 := bcell hW y3; clear hW; go_simp; try rfl)
                  simp only [Act.put, List.setIfInBounds_toArray, List.set_cons_zero, List.set_cons_succ]
                  refine takeInH 10 45 ?v129 rfl rfl (by kernel_rfl) (by kernel_rfl) (by kernel_rfl) (fun _ _ _ h => h) (by kernel_rfl) hS0 ?hy129 ?_
                  case hy129 => (intro W hW; clear hW; go_simp; try rfl)
                  simp only [Act.put, List.setIfInBounds_toArray, List.set_cons_zero, List.set_cons_succ]
                  refine wpAnyH_done (by kernel_rfl) ?_ _
                  go_wp2
                  go_ret
                  exact ⟨retB HE.out, bel_next HV.out (bel_next hB.out (by assumption))⟩
              · skip
                have HE : Hid (false = sameB ((r, s), c, l) ((r, s), c', m)) := by unfold Hid; rw [HQ0.out]; symm; rw [decide_eq_false_iff_not, hst.out, HXY.out]; rintro ⟨⟨h0, h1, h2, h3, h4, h5⟩, _⟩; contradiction
                clear hst HXY
                go_wp2
                refine wp_region_held_drew (S := fun W => Below wr.heap.size wr W) (by kernel_rfl) ((Below.refl _ wr).drew) (fun hS0 => ?_)
                refine takeInH 0 35 ?v130 rfl rfl (by kernel_rfl) (by kernel_rfl) (by kernel_rfl) (fun _ _ _ h => h) (by kernel_rfl) hS0 ?hy130 ?_
                case hy130 => (intro W hW; clear hW; go_simp; try rfl)
                simp only [Act.put, List.setIfInBounds_toArray, List.set_cons_zero, List.set_cons_succ]
                refine takeInH 1 36 ?v131 rfl rfl (by kernel_rfl) (by kernel_rfl) (by kernel_rfl) (fun _ _ _ h => h) (by kernel_rfl) hS0 ?hy131 ?_
                case hy131 => (intro W hW; have e0 := bcell hW c0; have e1 := bcell hW c1; have e2 := bcell hW c2; have e3 := bcell hW c3; have e4 := bcell hW c4; have e5 := bcell hW c5; have e6 := bcell hW d0; have e7 := bcell hW d1; have e8 := bcell hW d2; have e9 := bcell hW d3; have e10 := bcell hW d4; have e11 := bcell hW d5; have e12 := bcell hW x3; have e13 := bcell hW y3; clear hW; go_simp; try rfl)
                simp only [Act.put, List.setIfInBounds_toArray, List.set_cons_zero, List.set_cons_succ]
                refine takeInH 2 37 ?v132 rfl rfl (by kernel_rfl) (by kernel_rfl) (by kernel_rfl) (fun _ _ _ h => h) (by kernel_rfl) hS0 ?hy132 ?_
                case hy132 => (intro W hW; clear hW; go_simp; try rfl)
                simp only [Act.put, List.setIfInBounds_toArray, List.set_cons_zero, List.set_cons_succ]
                refine takeInH 3 38 ?v133 rfl rfl (by kernel_rfl) (by kernel_rfl) (by kernel_rfl) (fun _ _ _ h => h) (by kernel_rfl) hS0 ?hy133 ?_
                case hy133 => (intro W hW; clear hW; go_simp; try rfl)
                simp only [Act.put, List.setIfInBounds_toArray, List.set_cons_zero, List.set_cons_succ]
                refine takeInH 4 39 ?v134 rfl rfl (by kernel_rfl) (by kernel_rfl) (by kernel_rfl) (fun _ _ _ h => h) (by kernel_rfl) hS0 ?hy134 ?_
                case hy134 => (intro W hW; have e0 := bcell hW c0; have e1 := bcell hW c1; have e2 := bcell hW c2; have e3 := bcell hW c3; have e4 := bcell hW c4; have e5 := bcell hW c5; have e6 := bcell hW d0; have e7 := bcell hW d1; have e8 := bcell hW d2; have e9 := bcell hW d3; have e10 := bcell hW d4; have e11 := bcell hW d5; have e12 := bcell hW x3; have e13 := bcell hW y3; clear hW; go_simp; try rfl)
                simp only [Act.put, List.setIfInBounds_toArray, List.set_cons_zero, List.set_cons_succ]
                refine takeInH 5 40 ?v135 rfl rfl (by kernel_rfl) (by kernel_rfl) (by kernel_rfl) (fun _ _ _ h => h) (by kernel_rfl) hS0 ?hy135 ?_
                case hy135 => (intro W hW; clear hW; go_simp; try rfl)
                simp only [Act.put, List.setIfInBounds_toArray, List.set_cons_zero, List.set_cons_succ]
                refine takeInH 6 41 ?v136 rfl rfl (by kernel_rfl) (by kernel_rfl) (by kernel_rfl) (fun _ _ _ h => h) (by kernel_rfl) hS0 ?hy136 ?_
                case hy136 => (intro W hW; have e0 := bcell hW c0; have e1 := bcell hW c1; have e2 := bcell hW c2; have e3 := bcell hW c3; have e4 := bcell hW c4; have e5 := bcell hW c5; have e6 := bcell hW d0; have e7 := bcell hW d1; have e8 := bcell hW d2; have e9 := bcell hW d3; have e10 := bcell hW d4; have e11 := bcell hW d5; have e12 := bcell hW x3; have e13 := bcell hW y3; clear hW; go_simp; try rfl)
                simp only [Act.put, List.setIfInBounds_toArray, List.set_cons_zero, List.set_cons_succ]
                refine takeInH 7 42 ?v137 rfl rfl (by kernel_rfl) (by kernel_rfl) (by kernel_rfl) (fun _ _ _ h => h) (by kernel_rfl) hS0 ?hy137 ?_
                case hy137 => (intro W hW; clear hW; go_simp; try rfl)
                simp only [Act.put, List.setIfInBounds_toArray, List.set_cons_zero, List.set_cons_succ]
                refine takeInH 8 43 ?v138 rfl rfl (by kernel_rfl) (by kernel_rfl) (by kernel_rfl) (fun _ _ _ h => h) (by kernel_rfl) hS0 ?hy138 ?_
                case hy138 => (intro W hW; clear hW; go_simp; try rfl)
                simp only [Act.put, List.setIfInBounds_toArray, List.set_cons_zero, List.set_cons_succ]
                refine takeInH 9 44 ?v139 rfl rfl (by kernel_rfl) (by kernel_rfl) (by kernel_rfl) (fun _ _ _ h => h) (by kernel_rfl) hS0 ?hy139 ?_
                case hy139 => (intro W hW; have e0 := bcell hW c0; have e1 := bcell hW c1; have e2 := bcell hW c2; have e3 := bcell hW c3; have e4 := bcell hW c4; have e5 := bcell hW c5; have e6 := bcell hW d0; have e7 := bcell hW d1; have e8 := bcell hW d2; have e9 := bcell hW d3; have e10 := bcell hW d4; have e11 := bcell hW d5; have e12 := bcell hW x3; have e13 := bcell hW y3; clear hW; go_simp; try rfl)
                simp only [Act.put, List.setIfInBounds_toArray, List.set_cons_zero, List.set_cons_succ]
                refine takeInH 10 45 ?v140 rfl rfl (by kernel_rfl) (by kernel_rfl) (by kernel_rfl) (fun _ _ _ h => h) (by kernel_rfl) hS0 ?hy140 ?_
                case hy140 => (intro W hW; clear hW; go_simp; try rfl)
                simp only [Act.put, List.setIfInBounds_toArray, List.set_cons_zero, List.set_cons_succ]
                refine wpAnyH_done (by kernel_rfl) ?_ _
                go_wp2
                go_ret
                exact ⟨retB HE.out, bel_next HV.out (bel_next hB.out (by assumption))⟩
            · have hkl : k = ne := by omega
              subst hkl
              have x3 := (X1u.out.below hB.out).cell 3 _ rfl
              have HE : Hid (true = sameB ((r, s), c, l) ((r, s), c', m)) := by
                have h2 := hH.out
                rw [List.drop_of_length_le (by rw [HL.out]; exact Nat.le_refl _), List.drop_of_length_le (by rw [HL'.out]; exact Nat.le_refl _)] at h2
                unfold Hid; rw [HQ0.out]; symm; rw [decide_eq_true_iff, h2]
              go_wp2
              go_ret
              exact ⟨retB HE.out, bel_next HV.out hB.out⟩
        · have HE : Hid (false = sameB ((r, s), c, l) ((r, s), c', m)) := by
            unfold Hid; rw [HQ0.out]; symm; rw [decide_eq_false_iff_not]
            intro h
            rw [h] at HL
            have h1 := HL.out
            have h2 := HL'.out
            omega
          have hn1 : ((ne : Int) == (nf : Int)) = false := by simp; omega
          have hn2 : ¬ (ne : Int) = (nf : Int) := by omega
          have hn3 : ((ne : Int) != (nf : Int)) = true := by simp; omega
          go_enter Try.func14, Try.ntmps14
          go_wp2_with (go_at_call 37; refine (HC.out _ N1.out N2.out).mono ?_; rintro e u ⟨rfl, hb⟩; have HV := hide (bel_next HU.out hb); have x3 := (X1.out.below hb).cell 3 _ rfl; have y3 := (X2.out.below hb).cell 3 _ rfl; clear hb)
          go_ret
          exact ⟨retB HE.out, HV.out⟩
    · have HE : Hid (false = sameB ((r, s), c, l) ((r', s'), c', m)) := by unfold Hid; symm; rw [← Bool.not_eq_true, sameB_iff]; rintro ⟨⟨_, h⟩, _⟩; exact h2 h
      subst h1
      go_enter Try.func14, Try.ntmps14
      go_wp2
      go_ret
      exact ⟨retB HE.out, HU.out⟩
  · have HE : Hid (false = sameB ((r, s), c, l) ((r', s'), c', m)) := by unfold Hid; symm; rw [← Bool.not_eq_true, sameB_iff]; rintro ⟨⟨h, _⟩, _⟩; exact h1 h
    go_enter Try.func14, Try.ntmps14
    go_wp2
    go_ret
    exact ⟨retB HE.out, HU.out⟩
end Go.Proofs.Ytooggheoaglbeaa

/- Which effects may be, by the document. -/
namespace Go.Proofs.Ytooggheoaglbeaa
open Go.RowKit
set_option linter.unusedVariables false

theorem may_yes {b : Bool} {k o n t : Int} {kl wl : Nat} (hf : mayS k o n t kl wl = b) (h : (1 ≤ kl ∧ kl ≤ 32 ∧ 0 ≤ o ∧ o ≤ 15) ∧ (((k = 1 ∨ k = 2) ∧ n = 0 ∧ t = 0 ∧ wl = 0) ∨ ((k = 3 ∨ k = 4) ∧ 1 ≤ n ∧ n ≤ 1000 ∧ t = 0 ∧ wl = 0) ∨ (k = 5 ∧ 1 ≤ n ∧ n ≤ 1000 ∧ 1 ≤ t ∧ t ≤ 5 ∧ wl = 0) ∨ (k = 6 ∧ n = 0 ∧ t = 0 ∧ wl ≤ 64))) : true = b := by
  rw [← hf]; symm; rw [mayS_iff, fits_iff]; exact h
set_option maxHeartbeats 4000000 in
theorem mayEff1 (o n t : Int) (sk sw : ByteArray) (b : Bool) (hf : mayS 1 o n t sk.size sw.size = b) (w : World) (h1 : 1 ≤ sk.size) (h2 : (sk.size : Int) ≤ 32) (h3 : 0 ≤ o) (h4 : o ≤ 15) :
    Calls Try.prog 11 #[.agg #[.int .i64 1, .int .i64 o, .string sk, .int .i64 n, .int .i64 t, .string sw]] w fun e w' => e = .returned (.bool b) ∧ Gr w w' := by
  have HF := hide hf
  clear hf
  have hE : sk.toList.isEmpty = false := by rw [isE, decide_eq_false_iff_not]; omega
  have hW := isE sw
  by_cases h5 : sw.size = 0
  · have h6 : sw.toList.isEmpty = true := by rw [isE]; simp [h5]
    clear hW
    go_enter Try.func11, Try.ntmps11
    go_wp2 <;> go_ret <;> (refine ⟨retB ?_, (Gr.refl w).alloc _⟩) <;> (try simp only [bne_iff_ne, ne_eq, bne_eq_false_iff_eq] at *) <;> first | (refine may_no HF.out ?_; omega) | (refine may_if HF.out (isE sw) ?_; omega) | (refine may_if (p := (sw.size : Int) ≤ 64) HF.out ?_ ?_ <;> first | rfl | omega) | (refine may_yes HF.out ?_; omega)
  · have h6 : sw.toList.isEmpty = false := by rw [isE]; simp [h5]
    clear hW
    go_enter Try.func11, Try.ntmps11
    go_wp2 <;> go_ret <;> (refine ⟨retB ?_, (Gr.refl w).alloc _⟩) <;> (try simp only [bne_iff_ne, ne_eq, bne_eq_false_iff_eq] at *) <;> first | (refine may_no HF.out ?_; omega) | (refine may_if HF.out (isE sw) ?_; omega) | (refine may_if (p := (sw.size : Int) ≤ 64) HF.out ?_ ?_ <;> first | rfl | omega) | (refine may_yes HF.out ?_; omega)
set_option maxHeartbeats 4000000 in
theorem mayEff2 (o n t : Int) (sk sw : ByteArray) (b : Bool) (hf : mayS 2 o n t sk.size sw.size = b) (w : World) (h1 : 1 ≤ sk.size) (h2 : (sk.size : Int) ≤ 32) (h3 : 0 ≤ o) (h4 : o ≤ 15) :
    Calls Try.prog 11 #[.agg #[.int .i64 2, .int .i64 o, .string sk, .int .i64 n, .int .i64 t, .string sw]] w fun e w' => e = .returned (.bool b) ∧ Gr w w' := by
  have HF := hide hf
  clear hf
  have hE : sk.toList.isEmpty = false := by rw [isE, decide_eq_false_iff_not]; omega
  have hW := isE sw
  by_cases h5 : sw.size = 0
  · have h6 : sw.toList.isEmpty = true := by rw [isE]; simp [h5]
    clear hW
    go_enter Try.func11, Try.ntmps11
    go_wp2 <;> go_ret <;> (refine ⟨retB ?_, (Gr.refl w).alloc _⟩) <;> (try simp only [bne_iff_ne, ne_eq, bne_eq_false_iff_eq] at *) <;> first | (refine may_no HF.out ?_; omega) | (refine may_if HF.out (isE sw) ?_; omega) | (refine may_if (p := (sw.size : Int) ≤ 64) HF.out ?_ ?_ <;> first | rfl | omega) | (refine may_yes HF.out ?_; omega)
  · have h6 : sw.toList.isEmpty = false := by rw [isE]; simp [h5]
    clear hW
    go_enter Try.func11, Try.ntmps11
    go_wp2 <;> go_ret <;> (refine ⟨retB ?_, (Gr.refl w).alloc _⟩) <;> (try simp only [bne_iff_ne, ne_eq, bne_eq_false_iff_eq] at *) <;> first | (refine may_no HF.out ?_; omega) | (refine may_if HF.out (isE sw) ?_; omega) | (refine may_if (p := (sw.size : Int) ≤ 64) HF.out ?_ ?_ <;> first | rfl | omega) | (refine may_yes HF.out ?_; omega)
set_option maxHeartbeats 4000000 in
theorem mayEff3 (o n t : Int) (sk sw : ByteArray) (b : Bool) (hf : mayS 3 o n t sk.size sw.size = b) (w : World) (h1 : 1 ≤ sk.size) (h2 : (sk.size : Int) ≤ 32) (h3 : 0 ≤ o) (h4 : o ≤ 15) :
    Calls Try.prog 11 #[.agg #[.int .i64 3, .int .i64 o, .string sk, .int .i64 n, .int .i64 t, .string sw]] w fun e w' => e = .returned (.bool b) ∧ Gr w w' := by
  have HF := hide hf
  clear hf
  have hE : sk.toList.isEmpty = false := by rw [isE, decide_eq_false_iff_not]; omega
  have hW := isE sw
  by_cases h5 : sw.size = 0
  · have h6 : sw.toList.isEmpty = true := by rw [isE]; simp [h5]
    clear hW
    go_enter Try.func11, Try.ntmps11
    go_wp2 <;> go_ret <;> (refine ⟨retB ?_, (Gr.refl w).alloc _⟩) <;> (try simp only [bne_iff_ne, ne_eq, bne_eq_false_iff_eq] at *) <;> first | (refine may_no HF.out ?_; omega) | (refine may_if HF.out (isE sw) ?_; omega) | (refine may_if (p := (sw.size : Int) ≤ 64) HF.out ?_ ?_ <;> first | rfl | omega) | (refine may_yes HF.out ?_; omega)
  · have h6 : sw.toList.isEmpty = false := by rw [isE]; simp [h5]
    clear hW
    go_enter Try.func11, Try.ntmps11
    go_wp2 <;> go_ret <;> (refine ⟨retB ?_, (Gr.refl w).alloc _⟩) <;> (try simp only [bne_iff_ne, ne_eq, bne_eq_false_iff_eq] at *) <;> first | (refine may_no HF.out ?_; omega) | (refine may_if HF.out (isE sw) ?_; omega) | (refine may_if (p := (sw.size : Int) ≤ 64) HF.out ?_ ?_ <;> first | rfl | omega) | (refine may_yes HF.out ?_; omega)
set_option maxHeartbeats 4000000 in
theorem mayEff4 (o n t : Int) (sk sw : ByteArray) (b : Bool) (hf : mayS 4 o n t sk.size sw.size = b) (w : World) (h1 : 1 ≤ sk.size) (h2 : (sk.size : Int) ≤ 32) (h3 : 0 ≤ o) (h4 : o ≤ 15) :
    Calls Try.prog 11 #[.agg #[.int .i64 4, .int .i64 o, .string sk, .int .i64 n, .int .i64 t, .string sw]] w fun e w' => e = .returned (.bool b) ∧ Gr w w' := by
  have HF := hide hf
  clear hf
  have hE : sk.toList.isEmpty = false := by rw [isE, decide_eq_false_iff_not]; omega
  have hW := isE sw
  by_cases h5 : sw.size = 0
  · have h6 : sw.toList.isEmpty = true := by rw [isE]; simp [h5]
    clear hW
    go_enter Try.func11, Try.ntmps11
    go_wp2 <;> go_ret <;> (refine ⟨retB ?_, (Gr.refl w).alloc _⟩) <;> (try simp only [bne_iff_ne, ne_eq, bne_eq_false_iff_eq] at *) <;> first | (refine may_no HF.out ?_; omega) | (refine may_if HF.out (isE sw) ?_; omega) | (refine may_if (p := (sw.size : Int) ≤ 64) HF.out ?_ ?_ <;> first | rfl | omega) | (refine may_yes HF.out ?_; omega)
  · have h6 : sw.toList.isEmpty = false := by rw [isE]; simp [h5]
    clear hW
    go_enter Try.func11, Try.ntmps11
    go_wp2 <;> go_ret <;> (refine ⟨retB ?_, (Gr.refl w).alloc _⟩) <;> (try simp only [bne_iff_ne, ne_eq, bne_eq_false_iff_eq] at *) <;> first | (refine may_no HF.out ?_; omega) | (refine may_if HF.out (isE sw) ?_; omega) | (refine may_if (p := (sw.size : Int) ≤ 64) HF.out ?_ ?_ <;> first | rfl | omega) | (refine may_yes HF.out ?_; omega)
set_option maxHeartbeats 4000000 in
theorem mayEff5 (o n t : Int) (sk sw : ByteArray) (b : Bool) (hf : mayS 5 o n t sk.size sw.size = b) (w : World) (h1 : 1 ≤ sk.size) (h2 : (sk.size : Int) ≤ 32) (h3 : 0 ≤ o) (h4 : o ≤ 15) :
    Calls Try.prog 11 #[.agg #[.int .i64 5, .int .i64 o, .string sk, .int .i64 n, .int .i64 t, .string sw]] w fun e w' => e = .returned (.bool b) ∧ Gr w w' := by
  have HF := hide hf
  clear hf
  have hE : sk.toList.isEmpty = false := by rw [isE, decide_eq_false_iff_not]; omega
  have hW := isE sw
  by_cases h5 : sw.size = 0
  · have h6 : sw.toList.isEmpty = true := by rw [isE]; simp [h5]
    clear hW
    go_enter Try.func11, Try.ntmps11
    go_wp2 <;> go_ret <;> (refine ⟨retB ?_, (Gr.refl w).alloc _⟩) <;> (try simp only [bne_iff_ne, ne_eq, bne_eq_false_iff_eq] at *) <;> first | (refine may_no HF.out ?_; omega) | (refine may_if HF.out (isE sw) ?_; omega) | (refine may_if (p := (sw.size : Int) ≤ 64) HF.out ?_ ?_ <;> first | rfl | omega) | (refine may_yes HF.out ?_; omega)
  · have h6 : sw.toList.isEmpty = false := by rw [isE]; simp [h5]
    clear hW
    go_enter Try.func11, Try.ntmps11
    go_wp2 <;> go_ret <;> (refine ⟨retB ?_, (Gr.refl w).alloc _⟩) <;> (try simp only [bne_iff_ne, ne_eq, bne_eq_false_iff_eq] at *) <;> first | (refine may_no HF.out ?_; omega) | (refine may_if HF.out (isE sw) ?_; omega) | (refine may_if (p := (sw.size : Int) ≤ 64) HF.out ?_ ?_ <;> first | rfl | omega) | (refine may_yes HF.out ?_; omega)
set_option maxHeartbeats 4000000 in
theorem mayEff6 (o n t : Int) (sk sw : ByteArray) (b : Bool) (hf : mayS 6 o n t sk.size sw.size = b) (w : World) (h1 : 1 ≤ sk.size) (h2 : (sk.size : Int) ≤ 32) (h3 : 0 ≤ o) (h4 : o ≤ 15) :
    Calls Try.prog 11 #[.agg #[.int .i64 6, .int .i64 o, .string sk, .int .i64 n, .int .i64 t, .string sw]] w fun e w' => e = .returned (.bool b) ∧ Gr w w' := by
  have HF := hide hf
  clear hf
  have hE : sk.toList.isEmpty = false := by rw [isE, decide_eq_false_iff_not]; omega
  have hW := isE sw
  by_cases h5 : sw.size = 0
  · have h6 : sw.toList.isEmpty = true := by rw [isE]; simp [h5]
    clear hW
    go_enter Try.func11, Try.ntmps11
    go_wp2 <;> go_ret <;> (refine ⟨retB ?_, (Gr.refl w).alloc _⟩) <;> (try simp only [bne_iff_ne, ne_eq, bne_eq_false_iff_eq] at *) <;> first | (refine may_no HF.out ?_; omega) | (refine may_if HF.out (isE sw) ?_; omega) | (refine may_if (p := (sw.size : Int) ≤ 64) HF.out ?_ ?_ <;> first | rfl | omega) | (refine may_yes HF.out ?_; omega)
  · have h6 : sw.toList.isEmpty = false := by rw [isE]; simp [h5]
    clear hW
    go_enter Try.func11, Try.ntmps11
    go_wp2 <;> go_ret <;> (refine ⟨retB ?_, (Gr.refl w).alloc _⟩) <;> (try simp only [bne_iff_ne, ne_eq, bne_eq_false_iff_eq] at *) <;> first | (refine may_no HF.out ?_; omega) | (refine may_if HF.out (isE sw) ?_; omega) | (refine may_if (p := (sw.size : Int) ≤ 64) HF.out ?_ ?_ <;> first | rfl | omega) | (refine may_yes HF.out ?_; omega)
set_option maxHeartbeats 4000000 in
theorem MayEffect_any (k o n t : Int) (sk sw : ByteArray) (b : Bool) (hf : mayS k o n t sk.size sw.size = b) (w : World) :
    Calls Try.prog 11 #[.agg #[.int .i64 k, .int .i64 o, .string sk, .int .i64 n, .int .i64 t, .string sw]] w fun e w' => e = .returned (.bool b) ∧ Gr w w' := by
  have HF := hide hf
  by_cases h1 : sk.size = 0
  · have hE : sk.toList.isEmpty = true := by rw [isE]; simp [h1]
    clear hf
    go_enter Try.func11, Try.ntmps11
    go_wp2
    go_ret
    exact ⟨retB (may_no HF.out (by omega)), (Gr.refl w).alloc _⟩
  · have hE : sk.toList.isEmpty = false := by rw [isE]; simp [h1]
    by_cases h2 : (sk.size : Int) > 32
    · clear hf
      go_enter Try.func11, Try.ntmps11
      go_wp2
      go_ret
      exact ⟨retB (may_no HF.out (by omega)), (Gr.refl w).alloc _⟩
    · skip
      by_cases h3 : o < 0
      · clear hf
        go_enter Try.func11, Try.ntmps11
        go_wp2
        go_ret
        exact ⟨retB (may_no HF.out (by omega)), (Gr.refl w).alloc _⟩
      · skip
        by_cases h4 : o > 15
        · clear hf
          go_enter Try.func11, Try.ntmps11
          go_wp2
          go_ret
          exact ⟨retB (may_no HF.out (by omega)), (Gr.refl w).alloc _⟩
        · skip
          by_cases h5 : k < 1
          · clear hf
            go_enter Try.func11, Try.ntmps11
            go_wp2
            go_ret
            exact ⟨retB (may_no HF.out (by omega)), (Gr.refl w).alloc _⟩
          · skip
            by_cases h6 : k > 6
            · clear hf
              go_enter Try.func11, Try.ntmps11
              go_wp2
              go_ret
              exact ⟨retB (may_no HF.out (by omega)), (Gr.refl w).alloc _⟩
            · skip
              have h7 : k = 1 ∨ k = 2 ∨ k = 3 ∨ k = 4 ∨ k = 5 ∨ k = 6 := by omega
              rcases h7 with rfl | rfl | rfl | rfl | rfl | rfl
              · exact mayEff1 o n t sk sw b hf w (by omega) (by omega) (by omega) (by omega)
              · exact mayEff2 o n t sk sw b hf w (by omega) (by omega) (by omega) (by omega)
              · exact mayEff3 o n t sk sw b hf w (by omega) (by omega) (by omega) (by omega)
              · exact mayEff4 o n t sk sw b hf w (by omega) (by omega) (by omega) (by omega)
              · exact mayEff5 o n t sk sw b hf w (by omega) (by omega) (by omega) (by omega)
              · exact mayEff6 o n t sk sw b hf w (by omega) (by omega) (by omega) (by omega)
end Go.Proofs.Ytooggheoaglbeaa

/- For the statement on any clock plain, set and ticked: what the contracts say at a replica that may be, and at one that may not. -/
namespace Go.Proofs.Ytooggheoaglbeaa
open Go.RowKit
set_option linter.unusedVariables false

theorem getZ_in (c : List Int) (r : Nat) (hr : r < 5) : getZ c (r + 1) = at5 c r := by
  unfold getZ; rw [if_pos (by omega)]; congr 1
theorem setA_in (c : List Int) (r : Nat) (x : Int) (hr : r < 5) (hx : inB x = true) : setA c (r + 1) x = some (pln (setL c r x)) ∧ setE (r + 1) x = 0 := by
  unfold setA setE
  rw [if_pos ⟨by omega, hx⟩, if_pos ⟨by omega, hx⟩]
  exact ⟨rfl, rfl⟩
theorem setA_bad (c : List Int) (r x : Int) (h : ¬ ((1 ≤ r ∧ r ≤ 5) ∧ inB x = true)) : setA c r x = none ∧ setE r x = 1 := by
  unfold setA setE
  rw [if_neg h, if_neg h]
  exact ⟨rfl, rfl⟩
theorem tickA_in (c : List Int) (r : Nat) (hr : r < 5) (hx : ¬ at5 c r = 1048576) : tickA c (r + 1) = some (pln (setL c r (at5 c r + 1))) ∧ tickE c (r + 1) = 0 := by
  unfold tickA tickE
  rw [getZ_in c r hr, if_pos ⟨by omega, hx⟩, if_pos (by omega), if_neg hx]
  exact ⟨rfl, rfl⟩
theorem tickA_full (c : List Int) (r : Nat) (hr : r < 5) (hx : at5 c r = 1048576) : tickA c (r + 1) = none ∧ tickE c (r + 1) = 6 := by
  unfold tickA tickE
  rw [getZ_in c r hr, if_neg (fun t => t.2 hx), if_pos (by omega), if_pos hx]
  exact ⟨rfl, rfl⟩
theorem tickA_bad (c : List Int) (r : Int) (h : ¬ (1 ≤ r ∧ r ≤ 5)) : tickA c r = none ∧ tickE c r = 1 := by
  unfold tickA tickE
  rw [if_neg (fun t => h t.1), if_neg h]
  exact ⟨rfl, rfl⟩

theorem own_nil_len {N : Nat} {w : World} {v : Value} (h : OwnN N w v []) : ∃ p c, v = .slice p 0 c := by
  obtain ⟨p, c, hv, _, _⟩ := h.open
  exact ⟨p, c, hv⟩
theorem getZ_out (c : List Int) (k : Nat) (hk : 5 ≤ k) : at5 c k = 0 := by
  unfold at5
  split
  · next h =>
    have := (mayC_iff.1 h).1
    simp [List.getD_eq_getElem?_getD, List.getElem?_eq_none (show c.length ≤ k by omega)]
  · rfl
set_option maxHeartbeats 400000 in
/-- The document's 'Get', of any replica. -/
theorem get_refZ (a : Option Addr) (n cap : Nat) (c : List Int) (r : Int) (w : World) (hN : NS w a n c) :
    Calls Try.prog 41 #[.slice a n cap, .int .i64 r] w fun e w' => e = .returned (.int .i64 (getZ c r)) ∧ w' = w := by
  by_cases h1 : r < 1
  · have hz : getZ c r = 0 := by unfold getZ; rw [if_neg (by omega)]
    rw [hz]
    have mb := may_ref a n cap c w hN
    clear hN hz
    rcases hm : mayC c with _ | _
    · rw [hm] at mb
      go_enter Try.func41, Try.ntmps41
      go_wp2_with (go_at_call 39; refine mb.mono ?_; rintro e w' ⟨rfl, rfl⟩)
      go_ret
      exact ⟨rfl, rfl⟩
    · rw [hm] at mb
      go_enter Try.func41, Try.ntmps41
      go_wp2_with (go_at_call 39; refine mb.mono ?_; rintro e w' ⟨rfl, rfl⟩)
      go_ret
      exact ⟨rfl, rfl⟩
  · refine get_ref_as a n cap c r _ w hN (r.toNat - 1) (by omega) ?_
    unfold getZ
    split
    · rfl
    · exact getZ_out c _ (by omega)
end Go.Proofs.Ytooggheoaglbeaa

