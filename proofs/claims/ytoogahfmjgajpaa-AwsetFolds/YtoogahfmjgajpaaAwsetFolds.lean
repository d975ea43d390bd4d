/- In whatever order events are done, if what is ahead is done ahead, the set is told by which events there are alone. -/
import Derived.Test.YtoogahfmjgajpaaRows
import Derived.WalkKit
import Derived.ProofKit
import Derived.OpenShut
import Derived.ShutString
import Derived.ChangeOld
import Derived.Below
import Derived.SizedLaws
import Derived.Test.YtoogahfmjgajpaaD4
namespace Go.Proofs.Ytoogahfmjgajpaa.awsetFolds
open Go.ChangeShapes Go.WideShapes Go.ChangeAt Go.RowKit
set_option linter.unusedVariables false

theorem own : ownKnob Try.prog.godebug = none := by kernel_rfl
theorem laidOut : laidOutB Try.prog = true := by kernel_rfl

set_option maxRecDepth 2000 in
set_option maxHeartbeats 16000000 in
theorem walk (v0 : Value) (v1 : Value) (a2 : Int) (w : World) (w0 : InEs w v0) (w1 : InU w v1) (w2 : (Lit.int .i64 a2).wf = true) :
    Calls Try.prog 5 #[v0, v1, .int .i64 a2] w fun e w' => e = .returned (.bool true) ∧ Below w.heap.size w w' := by
  obtain ⟨a, n, cap, l, rfl, hE, hcp⟩ := w0
  obtain ⟨pt, nt, ct, tl, rfl, hT, _⟩ := w1
  have HV := hide hE
  have HT := hide hT
  have HLEN := hide hE.len
  have hnc := hcp.1
  have BB : Hid (Below w.heap.size w w) := Below.refl _ _
  clear hE hT hcp
  by_cases hn : (n : Int) ≤ 14
  · by_cases hnt : (nt : Int) ≤ 60
    · have HWH := hide (Whole_any a n cap l w HV.out (by omega) hnc)
      rcases hw : wholeB l with _ | _
      · rw [hw] at HWH
        go_enter Try.func5, Try.ntmps5
        go_wp2_with (first | (go_at_call 23; refine HWH.out.mono ?_; rintro e w1 ⟨rfl, hb⟩; replace BB := hide (bel_next BB.out hb); clear hb) | (go_at_call 8; refine (awake8 _).mono ?_; rintro e wz ⟨rfl, hb⟩))
        go_ret
        exact ⟨rfl, bel_next BB.out hb⟩
      · rw [hw] at HWH
        have HW := hide hw
        obtain ⟨hm, hnd, _⟩ := closed_parts.1 (wholeB_iff.1 hw).1
        have HM := hide hm
        clear hw hm hnd
        go_enter Try.func5, Try.ntmps5
        go_upto_region 4 with (go_at_call 23; refine HWH.out.mono ?_; rintro e w1 ⟨rfl, hb⟩; replace BB := hide (bel_next BB.out hb); clear hb HWH)
        have HB1 := hide (bel_next BB.out (bel1 w1 (.cells #[] 48)))
        generalize hg1 : w1.heap.size = g1 at *
        clear hg1
        generalize w1.alloc (.cells #[] 48) = wt at *
        go_upto_region 5 with (go_at_call 24; refine (Turned_any a n cap l pt nt ct tl _ (HV.out.below HB1.out) (by omega) (HT.out.below HB1.out) HW.out).mono ?_; rintro e w2 ⟨v8, es, ck, rfl, hoe, hti, hel, hb⟩; obtain ⟨p8, c8, rfl, hev, hc8⟩ := hoe.evs hb; have HEV := hide hev; have HTI := hide hti; have HEL := hide hel; replace BB := hide (bel_next HB1.out hb); clear hoe hev hti hb)
        have hnn8 : es.length = n := HEL.out
        rw [hnn8] at HEV hc8
        clear hnn8 hel
        have hc8' := hc8.1
        clear hc8
        have HMES : Hid (∀ e ∈ es, mayE e = true) := fun e he => HM.out e (HTI.out.sub e he)
        have HN0 := hide (NSS.nil w2 (some ⟨g1, 0, none⟩))
        have HT0 : Hid (ST [] (16 * 0)) := ST.nil
        go_wp2
        go_loopw [7, 9] (fun V v wr => ∃ (i : Nat) (ps : Option Addr) (cs : Nat) (S : List En), i ≤ n ∧ v = .int .i64 i ∧ V = .slice ps S.length cs ∧ Hid (NSS wr ps S.length S) ∧ Hid (CP ps S.length cs) ∧ Hid (S = foldS a2 (es.take i)) ∧ Hid (ST S (16 * i)) ∧ Hid (Below w2.heap.size w2 wr)) (fun _ v _ => n - (intOf v).toNat)
        case atStart => exact ⟨0, some ⟨g1, 0, none⟩, 0, [], by omega, rfl, rfl, HN0, ⟨Nat.le_refl _, by decide, fun _ => rfl⟩, (show [] = foldS a2 (es.take 0) by simp [foldS]), HT0, Below.refl _ _⟩
        case round =>
          clear HN0 HT0
          obtain ⟨i, ps, cs, S, hi, rfl, rfl, HNS, HCS, HSF, HST, HB⟩ := hrel
          by_cases hlt : i < n
          · obtain ⟨b, off, rfl⟩ := HEV.out.addr (by omega)
            obtain ⟨r, s, pa, na, ca, pe, ne, ce, c, le, hx, q0, q1, q2, q3, hN, _, hEf, _⟩ := HEV.out.at i hlt
            have C0 := hide q0
            have C1 := hide q1
            have C2 := hide q2
            have C3 := hide q3
            have HX := hide hx
            have HPA := hide hN
            have HEF := hide hEf
            have HME := hide (HMES.out _ (List.mem_of_getElem? hx))
            have HMD : Hid (mayD (r, s) = true) := may_dot HME.out
            have HMC : Hid (mayC c = true) := may_past HME.out
            have HLE := hide hEf.1.1
            have hne : ne ≤ 16 := by rw [← hEf.1.1]; exact eff_len HME.out
            have hi0 : (0 : Int) ≤ (i : Int) := by omega
            have hi1 : (i : Int) < (n : Int) := by omega
            have hi14 : i < 14 := by omega
            have HS0 : Hid (S = mid a2 es i ((r, s), c, le) 0) := by unfold Hid; rw [mid_zero]; exact HSF.out
            have HT1 : Hid (ST S (16 * i + 0)) := HST.out
            clear hx q0 q1 q2 q3 hN hEf HSF HST
            go_wp2
            go_loopw [7, 10] (fun V v wr2 => ∃ (k : Nat) (ps : Option Addr) (cs : Nat) (S : List En), k ≤ ne ∧ v = .int .i64 k ∧ V = .slice ps S.length cs ∧ Hid (NSS wr2 ps S.length S) ∧ Hid (CP ps S.length cs) ∧ Hid (S = mid a2 es i ((r, s), c, le) k) ∧ Hid (ST S (16 * i + k)) ∧ Hid (Below wr.heap.size wr wr2)) (fun _ v _ => ne - (intOf v).toNat)
            case atStart => exact ⟨0, ps, cs, S, by omega, rfl, rfl, HNS, HCS, HS0, HT1, Below.refl _ _⟩
            case round =>
              clear HNS HCS HS0 HT1
              obtain ⟨k, ps, cs, S, hk, rfl, rfl, HNS, HCS, HSM, HST, HB2⟩ := hrel
              have HBW0 := hide (bel_next HB.out HB2.out)
              by_cases hkn : k < ne
              · obtain ⟨be, offe, rfl⟩ := HEF.out.addr8 (by omega)
                obtain ⟨⟨f1, f2, f3, f4, f5, f6⟩, hxf⟩ : ∃ x, le[k]? = some x := ⟨_, List.getElem?_eq_getElem (by rw [HLE.out]; exact hkn)⟩
                obtain ⟨y0, y1, y2, y3, y4, y5⟩ := (HEF.out.below HBW0.out).at k _ hxf
                simp only at y0 y1 y2 y3 y4 y5
                have HXF : Hid (((((r, s), c, le) : Evt).2.2)[k]? = some (f1, f2, f3, f4, f5, f6)) := hxf
                have HMK : Hid (mayK (strOfNums f3) = true) := may_key (eff_may HME.out hxf)
                have hk0 : (0 : Int) ≤ (k : Int) := by omega
                have hk1 : (k : Int) < (ne : Int) := by omega
                have c3 := bcell HBW0.out C3.out
                clear hxf
                go_upto_region 14 with fail
                clear y0 y1 y2 y3 y4 y5 c3
                have X0 := hide (cell_new wr #[.int .i64 f1, .int .i64 f2, .string (strOfNums f3), .int .i64 f4, .int .i64 f5, .string (strOfNums f6)] 59 _ rfl 0 _ rfl)
                have X1 := hide (cell_new wr #[.int .i64 f1, .int .i64 f2, .string (strOfNums f3), .int .i64 f4, .int .i64 f5, .string (strOfNums f6)] 59 _ rfl 1 _ rfl)
                have X2 := hide (cell_new wr #[.int .i64 f1, .int .i64 f2, .string (strOfNums f3), .int .i64 f4, .int .i64 f5, .string (strOfNums f6)] 59 _ rfl 2 _ rfl)
                have HBW := hide (bel1 wr (.cells #[.int .i64 f1, .int .i64 f2, .string (strOfNums f3), .int .i64 f4, .int .i64 f5, .string (strOfNums f6)] 59))
                replace HNS := hide (HNS.out.below HBW.out)
                have BU := hide (bel_next HBW0.out HBW.out)
                generalize hgb : wr.heap.size = gb at X0 X1 X2 ⊢
                obtain ⟨u0, hu0⟩ : ∃ x, x = wr.alloc (.cells #[.int .i64 f1, .int .i64 f2, .string (strOfNums f3), .int .i64 f4, .int .i64 f5, .string (strOfNums f6)] 59) := ⟨_, rfl⟩
                rw [← hu0] at X0 X1 X2 HNS BU HBW ⊢
                have BX1 : Hid (Below u0.heap.size u0 u0) := Below.refl _ _
                clear hu0 hgb
                obtain ⟨ns, hns⟩ : ∃ x, S.length = x := ⟨_, rfl⟩
                have HNL := hide hns
                rw [hns] at HNS HCS ⊢
                clear hns
                have c0 := bcell BU.out C0.out
                have c1 := bcell BU.out C1.out
                have c2 := bcell BU.out C2.out
                have c3 := bcell BU.out C3.out
                have x0 := bcell BX1.out X0.out
                have x1 := bcell BX1.out X1.out
                have x2 := bcell BX1.out X2.out
                by_cases h2 : f2 = a2
                · by_cases h1 : f1 = 1
                  · have hq1 : ¬ ((1 : Int) = 2) := by decide
                    have HAD : Hid (∀ W, NSS W ps ns S → CP ps ns cs → NS W pa na c → Calls Try.prog 9 #[.slice ps ns cs, .string (strOfNums f3), .agg #[.int .i64 r, .int .i64 s], .slice pa na ca] W fun e w' => ∃ p cp, e = .returned (.tuple #[.slice p (addS S (strOfNums f3) (r, s) c).length cp, .int .i64 0]) ∧ NSS w' p (addS S (strOfNums f3) (r, s) c).length (addS S (strOfNums f3) (r, s) c) ∧ CP p (addS S (strOfNums f3) (r, s) c).length cp ∧ Below W.heap.size W w') := fun W g1 g2 g3 => Add_good ps ns cs S (strOfNums f3) r s pa na ca c W g1 g2 g3 HST.out.may HMK.out HMD.out HMC.out (fun x hx => Nat.le_trans (HST.out.few x hx) (by omega)) (by have := HST.out.len; have := HNL.out; omega)
                    have HTE : Hid (ST (addS S (strOfNums f3) (r, s) c) (16 * i + (k + 1))) := HST.out.add HMK.out HMD.out c (by omega)
                    have HSE : Hid (addS S (strOfNums f3) (r, s) c = mid a2 es i ((r, s), c, le) (k + 1)) := by unfold Hid; rw [mid_step HXF.out, ← HSM.out, stepX_add h2 h1]; rfl
                    obtain rfl : a2 = f2 := h2.symm
                    subst h1
                    go_upto_region 15 with fail
                    refine wp_region_held_drew (S := fun W => Below u0.heap.size u0 W) (by kernel_rfl) ((Below.refl _ u0).drew) (fun hS0 => ?_)
                    refine takeInH 0 71 ?v1 rfl rfl (by kernel_rfl) (by kernel_rfl) (by kernel_rfl) (fun _ _ _ h => h) (by kernel_rfl) hS0 ?hy1 ?_
                    case hy1 => (intro W hW; clear hW; go_simp; try rfl)
                    simp only [Act.put, List.setIfInBounds_toArray, List.set_cons_zero, List.set_cons_succ]
                    refine takeInH 1 72 ?v2 rfl rfl (by kernel_rfl) (by kernel_rfl) (by kernel_rfl) (fun _ _ _ h => h) (by kernel_rfl) hS0 ?hy2 ?_
                    case hy2 => (intro W hW; clear hW; go_simp; try rfl)
                    simp only [Act.put, List.setIfInBounds_toArray, List.set_cons_zero, List.set_cons_succ]
                    refine takeInH 2 73 ?v3 rfl rfl (by kernel_rfl) (by kernel_rfl) (by kernel_rfl) (fun _ _ _ h => h) (by kernel_rfl) hS0 ?hy3 ?_
                    case hy3 => (intro W hW; have e0 := bcell hW c0; have e1 := bcell hW c1; have e2 := bcell hW c2; have e3 := bcell hW c3; have e4 := bcell hW x0; have e5 := bcell hW x1; have e6 := bcell hW x2; clear hW; go_simp; try rfl)
                    simp only [Act.put, List.setIfInBounds_toArray, List.set_cons_zero, List.set_cons_succ]
                    refine takeInH 3 74 ?v4 rfl rfl (by kernel_rfl) (by kernel_rfl) (by kernel_rfl) (fun _ _ _ h => h) (by kernel_rfl) hS0 ?hy4 ?_
                    case hy4 => (intro W hW; clear hW; go_simp; try rfl)
                    simp only [Act.put, List.setIfInBounds_toArray, List.set_cons_zero, List.set_cons_succ]
                    refine takeInH 4 75 ?v5 rfl rfl (by kernel_rfl) (by kernel_rfl) (by kernel_rfl) (fun _ _ _ h => h) (by kernel_rfl) hS0 ?hy5 ?_
                    case hy5 => (intro W hW; clear hW; go_simp; try rfl)
                    simp only [Act.put, List.setIfInBounds_toArray, List.set_cons_zero, List.set_cons_succ]
                    refine takeInH 5 76 ?v6 rfl rfl (by kernel_rfl) (by kernel_rfl) (by kernel_rfl) (fun _ _ _ h => h) (by kernel_rfl) hS0 ?hy6 ?_
                    case hy6 => (intro W hW; clear hW; go_simp; try rfl)
                    simp only [Act.put, List.setIfInBounds_toArray, List.set_cons_zero, List.set_cons_succ]
                    refine takeInH 6 77 ?v7 rfl rfl (by kernel_rfl) (by kernel_rfl) (by kernel_rfl) (fun _ _ _ h => h) (by kernel_rfl) hS0 ?hy7 ?_
                    case hy7 => (intro W hW; clear hW; go_simp; try rfl)
                    simp only [Act.put, List.setIfInBounds_toArray, List.set_cons_zero, List.set_cons_succ]
                    refine takeInH 7 78 ?v8 rfl rfl (by kernel_rfl) (by kernel_rfl) (by kernel_rfl) (fun _ _ _ h => h) (by kernel_rfl) hS0 ?hy8 ?_
                    case hy8 => (intro W hW; have e0 := bcell hW c0; have e1 := bcell hW c1; have e2 := bcell hW c2; have e3 := bcell hW c3; have e4 := bcell hW x0; have e5 := bcell hW x1; have e6 := bcell hW x2; clear hW; go_simp; try rfl)
                    simp only [Act.put, List.setIfInBounds_toArray, List.set_cons_zero, List.set_cons_succ]
                    refine takeInH 8 79 ?v9 rfl rfl (by kernel_rfl) (by kernel_rfl) (by kernel_rfl) (fun _ _ _ h => h) (by kernel_rfl) hS0 ?hy9 ?_
                    case hy9 => (intro W hW; clear hW; go_simp; try rfl)
                    simp only [Act.put, List.setIfInBounds_toArray, List.set_cons_zero, List.set_cons_succ]
                    refine takeInH 9 80 ?v10 rfl rfl (by kernel_rfl) (by kernel_rfl) (by kernel_rfl) (fun _ _ _ h => h) (by kernel_rfl) hS0 ?hy10 ?_
                    case hy10 => (intro W hW; clear hW; go_simp; try rfl)
                    simp only [Act.put, List.setIfInBounds_toArray, List.set_cons_zero, List.set_cons_succ]
                    refine takeInH 10 81 ?v11 rfl rfl (by kernel_rfl) (by kernel_rfl) (by kernel_rfl) (fun _ _ _ h => h) (by kernel_rfl) hS0 ?hy11 ?_
                    case hy11 => (intro W hW; clear hW; go_simp; try rfl)
                    simp only [Act.put, List.setIfInBounds_toArray, List.set_cons_zero, List.set_cons_succ]
                    refine takeInH 11 82 ?v12 rfl rfl (by kernel_rfl) (by kernel_rfl) (by kernel_rfl) (fun _ _ _ h => h) (by kernel_rfl) hS0 ?hy12 ?_
                    case hy12 => (intro W hW; clear hW; go_simp; try rfl)
                    simp only [Act.put, List.setIfInBounds_toArray, List.set_cons_zero, List.set_cons_succ]
                    refine takeInH 12 83 ?v13 rfl rfl (by kernel_rfl) (by kernel_rfl) (by kernel_rfl) (fun _ _ _ h => h) (by kernel_rfl) hS0 ?hy13 ?_
                    case hy13 => (intro W hW; have e0 := bcell hW c0; have e1 := bcell hW c1; have e2 := bcell hW c2; have e3 := bcell hW c3; have e4 := bcell hW x0; have e5 := bcell hW x1; have e6 := bcell hW x2; clear hW; go_simp; try rfl)
                    simp only [Act.put, List.setIfInBounds_toArray, List.set_cons_zero, List.set_cons_succ]
                    refine wpAnyH_ready (rs := [13]) (by kernel_rfl) (by simp) ?_
                    refine AllReadyH.cons rfl (fun K hK => ?_) AllReadyH.nil
                    go_simp
                    refine (HAD.out _ (HNS.out.below hS0) HCS.out (HPA.out.below (bel_next BU.out hS0))).mono ?_
                    rintro e9 wn ⟨p9, c9, rfl, hn9, hc9, hb⟩
                    have HN9 := hide hn9
                    have HC9 := hide hc9
                    clear hn9 hc9
                    refine hK.out _ _ ?hs14 (fun hS1 => ?_)
                    case hs14 => exact bel_next hS0 hb
                    clear hK K hb
                    try simp only [Act.put, List.setIfInBounds_toArray, List.set_cons_zero, List.set_cons_succ]
                    refine takeInH 14 70 ?v15 rfl rfl (by kernel_rfl) (by kernel_rfl) (by kernel_rfl) (fun _ _ _ h => h) (by kernel_rfl) hS1 ?hy15 ?_
                    case hy15 => (intro W hW; clear hW; go_simp; try rfl)
                    simp only [Act.put, List.setIfInBounds_toArray, List.set_cons_zero, List.set_cons_succ]
                    refine takeInH 15 85 ?v16 rfl rfl (by kernel_rfl) (by kernel_rfl) (by kernel_rfl) (fun _ _ _ h => h) (by kernel_rfl) hS1 ?hy16 ?_
                    case hy16 => (intro W hW; clear hW; go_simp; try rfl)
                    simp only [Act.put, List.setIfInBounds_toArray, List.set_cons_zero, List.set_cons_succ]
                    refine takeInH 16 86 ?v17 rfl rfl (by kernel_rfl) (by kernel_rfl) (by kernel_rfl) (fun _ _ _ h => h) (by kernel_rfl) hS1 ?hy17 ?_
                    case hy17 => (intro W hW; clear hW; go_simp; try rfl)
                    simp only [Act.put, List.setIfInBounds_toArray, List.set_cons_zero, List.set_cons_succ]
                    refine takeInH 17 13 ?v18 rfl rfl (by kernel_rfl) (by kernel_rfl) (by kernel_rfl) (fun _ _ _ h => h) (by kernel_rfl) hS1 ?hy18 ?_
                    case hy18 => (intro W hW; clear hW; go_simp; try rfl)
                    simp only [Act.put, List.setIfInBounds_toArray, List.set_cons_zero, List.set_cons_succ]
                    refine takeInH 18 12 ?v19 rfl rfl (by kernel_rfl) (by kernel_rfl) (by kernel_rfl) (fun _ _ _ h => h) (by kernel_rfl) hS1 ?hy19 ?_
                    case hy19 => (intro W hW; clear hW; go_simp; try rfl)
                    simp only [Act.put, List.setIfInBounds_toArray, List.set_cons_zero, List.set_cons_succ]
                    refine wpAnyH_done (by kernel_rfl) ?_ _
                    replace BU := hide (bel_next BU.out hS1)
                    replace BX1 := hide (bel_next BX1.out hS1)
                    clear c0 c1 c2 c3 x0 x1 x2
                    have HNZ := HN9
                    clear HN9
                    have c0 := bcell BU.out C0.out
                    have c1 := bcell BU.out C1.out
                    have c2 := bcell BU.out C2.out
                    have c3 := bcell BU.out C3.out
                    have x0 := bcell BX1.out X0.out
                    have x1 := bcell BX1.out X1.out
                    have x2 := bcell BX1.out X2.out
                    go_upto_region 16 with fail
                    refine wp_region_held_drew (S := fun W => Below wn.heap.size wn W) (by kernel_rfl) ((Below.refl _ wn).drew) (fun hS0 => ?_)
                    refine takeInH 0 87 ?v20 rfl rfl (by kernel_rfl) (by kernel_rfl) (by kernel_rfl) (fun _ _ _ h => h) (by kernel_rfl) hS0 ?hy20 ?_
                    case hy20 => (intro W hW; clear hW; go_simp; try rfl)
                    simp only [Act.put, List.setIfInBounds_toArray, List.set_cons_zero, List.set_cons_succ]
                    refine takeInH 1 88 ?v21 rfl rfl (by kernel_rfl) (by kernel_rfl) (by kernel_rfl) (fun _ _ _ h => h) (by kernel_rfl) hS0 ?hy21 ?_
                    case hy21 => (intro W hW; have e0 := bcell hW c0; have e1 := bcell hW c1; have e2 := bcell hW c2; have e3 := bcell hW c3; have e4 := bcell hW x0; have e5 := bcell hW x1; have e6 := bcell hW x2; clear hW; go_simp; try rfl)
                    simp only [Act.put, List.setIfInBounds_toArray, List.set_cons_zero, List.set_cons_succ]
                    refine takeInH 2 89 ?v22 rfl rfl (by kernel_rfl) (by kernel_rfl) (by kernel_rfl) (fun _ _ _ h => h) (by kernel_rfl) hS0 ?hy22 ?_
                    case hy22 => (intro W hW; clear hW; go_simp; try rfl)
                    simp only [Act.put, List.setIfInBounds_toArray, List.set_cons_zero, List.set_cons_succ]
                    refine takeInH 3 90 ?v23 rfl rfl (by kernel_rfl) (by kernel_rfl) (by kernel_rfl) (fun _ _ _ h => h) (by kernel_rfl) hS0 ?hy23 ?_
                    case hy23 => (intro W hW; clear hW; go_simp; try rfl)
                    simp only [Act.put, List.setIfInBounds_toArray, List.set_cons_zero, List.set_cons_succ]
                    refine takeInH 4 91 ?v24 rfl rfl (by kernel_rfl) (by kernel_rfl) (by kernel_rfl) (fun _ _ _ h => h) (by kernel_rfl) hS0 ?hy24 ?_
                    case hy24 => (intro W hW; clear hW; go_simp; try rfl)
                    simp only [Act.put, List.setIfInBounds_toArray, List.set_cons_zero, List.set_cons_succ]
                    refine takeInH 5 92 ?v25 rfl rfl (by kernel_rfl) (by kernel_rfl) (by kernel_rfl) (fun _ _ _ h => h) (by kernel_rfl) hS0 ?hy25 ?_
                    case hy25 => (intro W hW; clear hW; go_simp; try rfl)
                    simp only [Act.put, List.setIfInBounds_toArray, List.set_cons_zero, List.set_cons_succ]
                    refine takeInH 6 93 ?v26 rfl rfl (by kernel_rfl) (by kernel_rfl) (by kernel_rfl) (fun _ _ _ h => h) (by kernel_rfl) hS0 ?hy26 ?_
                    case hy26 => (intro W hW; have e0 := bcell hW c0; have e1 := bcell hW c1; have e2 := bcell hW c2; have e3 := bcell hW c3; have e4 := bcell hW x0; have e5 := bcell hW x1; have e6 := bcell hW x2; clear hW; go_simp; try rfl)
                    simp only [Act.put, List.setIfInBounds_toArray, List.set_cons_zero, List.set_cons_succ]
                    refine takeInH 7 94 ?v27 rfl rfl (by kernel_rfl) (by kernel_rfl) (by kernel_rfl) (fun _ _ _ h => h) (by kernel_rfl) hS0 ?hy27 ?_
                    case hy27 => (intro W hW; clear hW; go_simp; try rfl)
                    simp only [Act.put, List.setIfInBounds_toArray, List.set_cons_zero, List.set_cons_succ]
                    refine takeInH 8 95 ?v28 rfl rfl (by kernel_rfl) (by kernel_rfl) (by kernel_rfl) (fun _ _ _ h => h) (by kernel_rfl) hS0 ?hy28 ?_
                    case hy28 => (intro W hW; clear hW; go_simp; try rfl)
                    simp only [Act.put, List.setIfInBounds_toArray, List.set_cons_zero, List.set_cons_succ]
                    refine takeInH 9 96 ?v29 rfl rfl (by kernel_rfl) (by kernel_rfl) (by kernel_rfl) (fun _ _ _ h => h) (by kernel_rfl) hS0 ?hy29 ?_
                    case hy29 => (intro W hW; clear hW; go_simp; try rfl)
                    simp only [Act.put, List.setIfInBounds_toArray, List.set_cons_zero, List.set_cons_succ]
                    refine takeNoH 10 97 rfl rfl (by kernel_rfl) (by kernel_rfl) (by kernel_rfl) (fun _ _ _ h => h) (by kernel_rfl) hS0 ?_
                    simp only [Act.put, List.setIfInBounds_toArray, List.set_cons_zero, List.set_cons_succ]
                    refine takeNoH 11 98 rfl rfl (by kernel_rfl) (by kernel_rfl) (by kernel_rfl) (fun _ _ _ h => h) (by kernel_rfl) hS0 ?_
                    simp only [Act.put, List.setIfInBounds_toArray, List.set_cons_zero, List.set_cons_succ]
                    refine takeNoH 12 99 rfl rfl (by kernel_rfl) (by kernel_rfl) (by kernel_rfl) (fun _ _ _ h => h) (by kernel_rfl) hS0 ?_
                    simp only [Act.put, List.setIfInBounds_toArray, List.set_cons_zero, List.set_cons_succ]
                    refine takeNoH 13 100 rfl rfl (by kernel_rfl) (by kernel_rfl) (by kernel_rfl) (fun _ _ _ h => h) (by kernel_rfl) hS0 ?_
                    simp only [Act.put, List.setIfInBounds_toArray, List.set_cons_zero, List.set_cons_succ]
                    refine takeNoH 14 101 rfl rfl (by kernel_rfl) (by kernel_rfl) (by kernel_rfl) (fun _ _ _ h => h) (by kernel_rfl) hS0 ?_
                    simp only [Act.put, List.setIfInBounds_toArray, List.set_cons_zero, List.set_cons_succ]
                    refine takeNoH 15 102 rfl rfl (by kernel_rfl) (by kernel_rfl) (by kernel_rfl) (fun _ _ _ h => h) (by kernel_rfl) hS0 ?_
                    simp only [Act.put, List.setIfInBounds_toArray, List.set_cons_zero, List.set_cons_succ]
                    refine takeNoH 16 103 rfl rfl (by kernel_rfl) (by kernel_rfl) (by kernel_rfl) (fun _ _ _ h => h) (by kernel_rfl) hS0 ?_
                    simp only [Act.put, List.setIfInBounds_toArray, List.set_cons_zero, List.set_cons_succ]
                    refine takeNoH 17 104 rfl rfl (by kernel_rfl) (by kernel_rfl) (by kernel_rfl) (fun _ _ _ h => h) (by kernel_rfl) hS0 ?_
                    simp only [Act.put, List.setIfInBounds_toArray, List.set_cons_zero, List.set_cons_succ]
                    refine takeNoH 18 105 rfl rfl (by kernel_rfl) (by kernel_rfl) (by kernel_rfl) (fun _ _ _ h => h) (by kernel_rfl) hS0 ?_
                    simp only [Act.put, List.setIfInBounds_toArray, List.set_cons_zero, List.set_cons_succ]
                    refine takeInH 19 106 ?v30 rfl rfl (by kernel_rfl) (by kernel_rfl) (by kernel_rfl) (fun _ _ _ h => h) (by kernel_rfl) hS0 ?hy30 ?_
                    case hy30 => (intro W hW; clear hW; go_simp; try rfl)
                    simp only [Act.put, List.setIfInBounds_toArray, List.set_cons_zero, List.set_cons_succ]
                    refine wpAnyH_done (by kernel_rfl) ?_ _
                    replace BU := hide (bel_next BU.out hS0)
                    replace BX1 := hide (bel_next BX1.out hS0)
                    clear c0 c1 c2 c3 x0 x1 x2
                    replace HNZ := hide (HNZ.out.below hS0)
                    generalize wn.drew = wm at *
                    have HNE := HNZ
                    have HCE := HC9
                    go_wp2
                    go_roundw
                    case rel => exact ⟨k + 1, _, _, _, by omega, by go_num, rfl, HNE, HCE, HSE, HTE, (show Hid _ from bel_next HB2.out (bel_next HBW.out BX1.out))⟩
                    case measure => simp [intOf]; omega
                  · by_cases h3 : f1 = 2
                    · rcases hdb : doesB ((r, s), c, le) 1 a2 (strOfNums f3) with _ | _
                      · have HDB := hide hdb
                        clear hdb h1
                        have HDD : Hid (∀ W, NSS W ps ns S → CP ps ns cs → NS W pa na c → Calls Try.prog 10 #[.slice ps ns cs, .string (strOfNums f3), .slice pa na ca] W fun e w' => ∃ p cp, e = .returned (.tuple #[.slice p (dropS S (strOfNums f3) c).length cp, .int .i64 0]) ∧ NSS w' p (dropS S (strOfNums f3) c).length (dropS S (strOfNums f3) c) ∧ CP p (dropS S (strOfNums f3) c).length cp ∧ Below W.heap.size W w') := fun W g1 g2 g3 => Drop_good ps ns cs S (strOfNums f3) pa na ca c W g1 g2 g3 HST.out.may HMK.out HMC.out (fun x hx => Nat.le_trans (HST.out.few x hx) (by omega))
                        have HTE : Hid (ST (dropS S (strOfNums f3) c) (16 * i + (k + 1))) := HST.out.drop HMK.out c (by omega)
                        have HSE : Hid (dropS S (strOfNums f3) c = mid a2 es i ((r, s), c, le) (k + 1)) := by unfold Hid; rw [mid_step HXF.out, ← HSM.out, stepX_drop h2 h3 HDB.out]; rfl
                        obtain rfl : a2 = f2 := h2.symm
                        subst h3
                        go_upto_region 16 with fail
                        refine wp_region_held_drew (S := fun W => Below u0.heap.size u0 W) (by kernel_rfl) ((Below.refl _ u0).drew) (fun hS0 => ?_)
                        refine takeInH 0 87 ?v31 rfl rfl (by kernel_rfl) (by kernel_rfl) (by kernel_rfl) (fun _ _ _ h => h) (by kernel_rfl) hS0 ?hy31 ?_
                        case hy31 => (intro W hW; clear hW; go_simp; try rfl)
                        simp only [Act.put, List.setIfInBounds_toArray, List.set_cons_zero, List.set_cons_succ]
                        refine takeInH 1 88 ?v32 rfl rfl (by kernel_rfl) (by kernel_rfl) (by kernel_rfl) (fun _ _ _ h => h) (by kernel_rfl) hS0 ?hy32 ?_
                        case hy32 => (intro W hW; have e0 := bcell hW c0; have e1 := bcell hW c1; have e2 := bcell hW c2; have e3 := bcell hW c3; have e4 := bcell hW x0; have e5 := bcell hW x1; have e6 := bcell hW x2; clear hW; go_simp; try rfl)
                        simp only [Act.put, List.setIfInBounds_toArray, List.set_cons_zero, List.set_cons_succ]
                        refine takeInH 2 89 ?v33 rfl rfl (by kernel_rfl) (by kernel_rfl) (by kernel_rfl) (fun _ _ _ h => h) (by kernel_rfl) hS0 ?hy33 ?_
                        case hy33 => (intro W hW; clear hW; go_simp; try rfl)
                        simp only [Act.put, List.setIfInBounds_toArray, List.set_cons_zero, List.set_cons_succ]
                        refine takeInH 3 90 ?v34 rfl rfl (by kernel_rfl) (by kernel_rfl) (by kernel_rfl) (fun _ _ _ h => h) (by kernel_rfl) hS0 ?hy34 ?_
                        case hy34 => (intro W hW; clear hW; go_simp; try rfl)
                        simp only [Act.put, List.setIfInBounds_toArray, List.set_cons_zero, List.set_cons_succ]
                        refine takeInH 4 91 ?v35 rfl rfl (by kernel_rfl) (by kernel_rfl) (by kernel_rfl) (fun _ _ _ h => h) (by kernel_rfl) hS0 ?hy35 ?_
                        case hy35 => (intro W hW; clear hW; go_simp; try rfl)
                        simp only [Act.put, List.setIfInBounds_toArray, List.set_cons_zero, List.set_cons_succ]
                        refine takeInH 5 92 ?v36 rfl rfl (by kernel_rfl) (by kernel_rfl) (by kernel_rfl) (fun _ _ _ h => h) (by kernel_rfl) hS0 ?hy36 ?_
                        case hy36 => (intro W hW; clear hW; go_simp; try rfl)
                        simp only [Act.put, List.setIfInBounds_toArray, List.set_cons_zero, List.set_cons_succ]
                        refine takeInH 6 93 ?v37 rfl rfl (by kernel_rfl) (by kernel_rfl) (by kernel_rfl) (fun _ _ _ h => h) (by kernel_rfl) hS0 ?hy37 ?_
                        case hy37 => (intro W hW; have e0 := bcell hW c0; have e1 := bcell hW c1; have e2 := bcell hW c2; have e3 := bcell hW c3; have e4 := bcell hW x0; have e5 := bcell hW x1; have e6 := bcell hW x2; clear hW; go_simp; try rfl)
                        simp only [Act.put, List.setIfInBounds_toArray, List.set_cons_zero, List.set_cons_succ]
                        refine takeInH 7 94 ?v38 rfl rfl (by kernel_rfl) (by kernel_rfl) (by kernel_rfl) (fun _ _ _ h => h) (by kernel_rfl) hS0 ?hy38 ?_
                        case hy38 => (intro W hW; clear hW; go_simp; try rfl)
                        simp only [Act.put, List.setIfInBounds_toArray, List.set_cons_zero, List.set_cons_succ]
                        refine takeInH 8 95 ?v39 rfl rfl (by kernel_rfl) (by kernel_rfl) (by kernel_rfl) (fun _ _ _ h => h) (by kernel_rfl) hS0 ?hy39 ?_
                        case hy39 => (intro W hW; clear hW; go_simp; try rfl)
                        simp only [Act.put, List.setIfInBounds_toArray, List.set_cons_zero, List.set_cons_succ]
                        refine takeInH 9 96 ?v40 rfl rfl (by kernel_rfl) (by kernel_rfl) (by kernel_rfl) (fun _ _ _ h => h) (by kernel_rfl) hS0 ?hy40 ?_
                        case hy40 => (intro W hW; clear hW; go_simp; try rfl)
                        simp only [Act.put, List.setIfInBounds_toArray, List.set_cons_zero, List.set_cons_succ]
                        refine takeInH 10 97 ?v41 rfl rfl (by kernel_rfl) (by kernel_rfl) (by kernel_rfl) (fun _ _ _ h => h) (by kernel_rfl) hS0 ?hy41 ?_
                        case hy41 => (intro W hW; clear hW; go_simp; try rfl)
                        simp only [Act.put, List.setIfInBounds_toArray, List.set_cons_zero, List.set_cons_succ]
                        refine takeInH 11 98 ?v42 rfl rfl (by kernel_rfl) (by kernel_rfl) (by kernel_rfl) (fun _ _ _ h => h) (by kernel_rfl) hS0 ?hy42 ?_
                        case hy42 => (intro W hW; clear hW; go_simp; try rfl)
                        simp only [Act.put, List.setIfInBounds_toArray, List.set_cons_zero, List.set_cons_succ]
                        refine takeInH 12 99 ?v43 rfl rfl (by kernel_rfl) (by kernel_rfl) (by kernel_rfl) (fun _ _ _ h => h) (by kernel_rfl) hS0 ?hy43 ?_
                        case hy43 => (intro W hW; clear hW; go_simp; try rfl)
                        simp only [Act.put, List.setIfInBounds_toArray, List.set_cons_zero, List.set_cons_succ]
                        refine takeInH 13 100 ?v44 rfl rfl (by kernel_rfl) (by kernel_rfl) (by kernel_rfl) (fun _ _ _ h => h) (by kernel_rfl) hS0 ?hy44 ?_
                        case hy44 => (intro W hW; have e0 := bcell hW c0; have e1 := bcell hW c1; have e2 := bcell hW c2; have e3 := bcell hW c3; have e4 := bcell hW x0; have e5 := bcell hW x1; have e6 := bcell hW x2; clear hW; go_simp; try rfl)
                        simp only [Act.put, List.setIfInBounds_toArray, List.set_cons_zero, List.set_cons_succ]
                        refine takeInH 14 101 ?v45 rfl rfl (by kernel_rfl) (by kernel_rfl) (by kernel_rfl) (fun _ _ _ h => h) (by kernel_rfl) hS0 ?hy45 ?_
                        case hy45 => (intro W hW; clear hW; go_simp; try rfl)
                        simp only [Act.put, List.setIfInBounds_toArray, List.set_cons_zero, List.set_cons_succ]
                        refine takeInH 15 102 ?v46 rfl rfl (by kernel_rfl) (by kernel_rfl) (by kernel_rfl) (fun _ _ _ h => h) (by kernel_rfl) hS0 ?hy46 ?_
                        case hy46 => (intro W hW; clear hW; go_simp; try rfl)
                        simp only [Act.put, List.setIfInBounds_toArray, List.set_cons_zero, List.set_cons_succ]
                        refine takeInH 16 103 ?v47 rfl rfl (by kernel_rfl) (by kernel_rfl) (by kernel_rfl) (fun _ _ _ h => h) (by kernel_rfl) hS0 ?hy47 ?_
                        case hy47 => (intro W hW; have e0 := bcell hW c0; have e1 := bcell hW c1; have e2 := bcell hW c2; have e3 := bcell hW c3; have e4 := bcell hW x0; have e5 := bcell hW x1; have e6 := bcell hW x2; clear hW; go_simp; try rfl)
                        simp only [Act.put, List.setIfInBounds_toArray, List.set_cons_zero, List.set_cons_succ]
                        refine wpAnyH_ready (rs := [17]) (by kernel_rfl) (by simp) ?_
                        refine AllReadyH.cons rfl (fun K hK => ?_) AllReadyH.nil
                        go_simp
                        refine (Does_any r s pa na ca (some ⟨be, offe, none⟩) ne ce c le 1 a2 (strOfNums f3) _ (HEF.out.below (bel_next BU.out hS0))).mono ?_
                        rintro e9 wn ⟨rfl, hb⟩
                        rw [show doesB ((r, s), c, le) 1 a2 (strOfNums f3) = false from HDB.out]
                        refine hK.out _ _ ?hs48 (fun hS1 => ?_)
                        case hs48 => exact bel_next hS0 hb
                        clear hK K hb
                        try simp only [Act.put, List.setIfInBounds_toArray, List.set_cons_zero, List.set_cons_succ]
                        refine takeInH 18 105 ?v49 rfl rfl (by kernel_rfl) (by kernel_rfl) (by kernel_rfl) (fun _ _ _ h => h) (by kernel_rfl) hS1 ?hy49 ?_
                        case hy49 => (intro W hW; clear hW; go_simp; try rfl)
                        simp only [Act.put, List.setIfInBounds_toArray, List.set_cons_zero, List.set_cons_succ]
                        refine takeInH 19 106 ?v50 rfl rfl (by kernel_rfl) (by kernel_rfl) (by kernel_rfl) (fun _ _ _ h => h) (by kernel_rfl) hS1 ?hy50 ?_
                        case hy50 => (intro W hW; clear hW; go_simp; try rfl)
                        simp only [Act.put, List.setIfInBounds_toArray, List.set_cons_zero, List.set_cons_succ]
                        refine wpAnyH_done (by kernel_rfl) ?_ _
                        replace BU := hide (bel_next BU.out hS1)
                        replace BX1 := hide (bel_next BX1.out hS1)
                        clear c0 c1 c2 c3 x0 x1 x2
                        replace HNS := hide (HNS.out.below hS1)
                        have c0 := bcell BU.out C0.out
                        have c1 := bcell BU.out C1.out
                        have c2 := bcell BU.out C2.out
                        have c3 := bcell BU.out C3.out
                        have x0 := bcell BX1.out X0.out
                        have x1 := bcell BX1.out X1.out
                        have x2 := bcell BX1.out X2.out
                        go_upto_region 17 with fail
                        refine wp_region_held_drew (S := fun W => Below wn.heap.size wn W) (by kernel_rfl) ((Below.refl _ wn).drew) (fun hS0 => ?_)
                        refine takeInH 0 108 ?v51 rfl rfl (by kernel_rfl) (by kernel_rfl) (by kernel_rfl) (fun _ _ _ h => h) (by kernel_rfl) hS0 ?hy51 ?_
                        case hy51 => (intro W hW; clear hW; go_simp; try rfl)
                        simp only [Act.put, List.setIfInBounds_toArray, List.set_cons_zero, List.set_cons_succ]
                        refine takeInH 1 109 ?v52 rfl rfl (by kernel_rfl) (by kernel_rfl) (by kernel_rfl) (fun _ _ _ h => h) (by kernel_rfl) hS0 ?hy52 ?_
                        case hy52 => (intro W hW; clear hW; go_simp; try rfl)
                        simp only [Act.put, List.setIfInBounds_toArray, List.set_cons_zero, List.set_cons_succ]
                        refine takeInH 2 110 ?v53 rfl rfl (by kernel_rfl) (by kernel_rfl) (by kernel_rfl) (fun _ _ _ h => h) (by kernel_rfl) hS0 ?hy53 ?_
                        case hy53 => (intro W hW; have e0 := bcell hW c0; have e1 := bcell hW c1; have e2 := bcell hW c2; have e3 := bcell hW c3; have e4 := bcell hW x0; have e5 := bcell hW x1; have e6 := bcell hW x2; clear hW; go_simp; try rfl)
                        simp only [Act.put, List.setIfInBounds_toArray, List.set_cons_zero, List.set_cons_succ]
                        refine takeInH 3 111 ?v54 rfl rfl (by kernel_rfl) (by kernel_rfl) (by kernel_rfl) (fun _ _ _ h => h) (by kernel_rfl) hS0 ?hy54 ?_
                        case hy54 => (intro W hW; clear hW; go_simp; try rfl)
                        simp only [Act.put, List.setIfInBounds_toArray, List.set_cons_zero, List.set_cons_succ]
                        refine takeInH 4 112 ?v55 rfl rfl (by kernel_rfl) (by kernel_rfl) (by kernel_rfl) (fun _ _ _ h => h) (by kernel_rfl) hS0 ?hy55 ?_
                        case hy55 => (intro W hW; clear hW; go_simp; try rfl)
                        simp only [Act.put, List.setIfInBounds_toArray, List.set_cons_zero, List.set_cons_succ]
                        refine takeInH 5 113 ?v56 rfl rfl (by kernel_rfl) (by kernel_rfl) (by kernel_rfl) (fun _ _ _ h => h) (by kernel_rfl) hS0 ?hy56 ?_
                        case hy56 => (intro W hW; clear hW; go_simp; try rfl)
                        simp only [Act.put, List.setIfInBounds_toArray, List.set_cons_zero, List.set_cons_succ]
                        refine takeInH 6 114 ?v57 rfl rfl (by kernel_rfl) (by kernel_rfl) (by kernel_rfl) (fun _ _ _ h => h) (by kernel_rfl) hS0 ?hy57 ?_
                        case hy57 => (intro W hW; clear hW; go_simp; try rfl)
                        simp only [Act.put, List.setIfInBounds_toArray, List.set_cons_zero, List.set_cons_succ]
                        refine takeInH 7 115 ?v58 rfl rfl (by kernel_rfl) (by kernel_rfl) (by kernel_rfl) (fun _ _ _ h => h) (by kernel_rfl) hS0 ?hy58 ?_
                        case hy58 => (intro W hW; have e0 := bcell hW c0; have e1 := bcell hW c1; have e2 := bcell hW c2; have e3 := bcell hW c3; have e4 := bcell hW x0; have e5 := bcell hW x1; have e6 := bcell hW x2; clear hW; go_simp; try rfl)
                        simp only [Act.put, List.setIfInBounds_toArray, List.set_cons_zero, List.set_cons_succ]
                        refine wpAnyH_ready (rs := [8]) (by kernel_rfl) (by simp) ?_
                        refine AllReadyH.cons rfl (fun K hK => ?_) AllReadyH.nil
                        go_simp
                        refine (HDD.out _ (HNS.out.below hS0) HCS.out (HPA.out.below (bel_next BU.out hS0))).mono ?_
                        rintro e9 wn ⟨p9, c9, rfl, hn9, hc9, hb⟩
                        have HN9 := hide hn9
                        have HC9 := hide hc9
                        clear hn9 hc9
                        refine hK.out _ _ ?hs59 (fun hS1 => ?_)
                        case hs59 => exact bel_next hS0 hb
                        clear hK K hb
                        try simp only [Act.put, List.setIfInBounds_toArray, List.set_cons_zero, List.set_cons_succ]
                        refine takeInH 9 107 ?v60 rfl rfl (by kernel_rfl) (by kernel_rfl) (by kernel_rfl) (fun _ _ _ h => h) (by kernel_rfl) hS1 ?hy60 ?_
                        case hy60 => (intro W hW; clear hW; go_simp; try rfl)
                        simp only [Act.put, List.setIfInBounds_toArray, List.set_cons_zero, List.set_cons_succ]
                        refine takeInH 10 117 ?v61 rfl rfl (by kernel_rfl) (by kernel_rfl) (by kernel_rfl) (fun _ _ _ h => h) (by kernel_rfl) hS1 ?hy61 ?_
                        case hy61 => (intro W hW; clear hW; go_simp; try rfl)
                        simp only [Act.put, List.setIfInBounds_toArray, List.set_cons_zero, List.set_cons_succ]
                        refine takeInH 11 118 ?v62 rfl rfl (by kernel_rfl) (by kernel_rfl) (by kernel_rfl) (fun _ _ _ h => h) (by kernel_rfl) hS1 ?hy62 ?_
                        case hy62 => (intro W hW; clear hW; go_simp; try rfl)
                        simp only [Act.put, List.setIfInBounds_toArray, List.set_cons_zero, List.set_cons_succ]
                        refine takeInH 12 13 ?v63 rfl rfl (by kernel_rfl) (by kernel_rfl) (by kernel_rfl) (fun _ _ _ h => h) (by kernel_rfl) hS1 ?hy63 ?_
                        case hy63 => (intro W hW; clear hW; go_simp; try rfl)
                        simp only [Act.put, List.setIfInBounds_toArray, List.set_cons_zero, List.set_cons_succ]
                        refine takeInH 13 12 ?v64 rfl rfl (by kernel_rfl) (by kernel_rfl) (by kernel_rfl) (fun _ _ _ h => h) (by kernel_rfl) hS1 ?hy64 ?_
                        case hy64 => (intro W hW; clear hW; go_simp; try rfl)
                        simp only [Act.put, List.setIfInBounds_toArray, List.set_cons_zero, List.set_cons_succ]
                        refine wpAnyH_done (by kernel_rfl) ?_ _
                        replace BU := hide (bel_next BU.out hS1)
                        replace BX1 := hide (bel_next BX1.out hS1)
                        clear c0 c1 c2 c3 x0 x1 x2
                        have HNE := HN9
                        have HCE := HC9
                        go_wp2
                        go_roundw
                        case rel => exact ⟨k + 1, _, _, _, by omega, by go_num, rfl, HNE, HCE, HSE, HTE, (show Hid _ from bel_next HB2.out (bel_next HBW.out BX1.out))⟩
                        case measure => simp [intOf]; omega
                      · have HDB := hide hdb
                        clear hdb
                        have HTE : Hid (ST S (16 * i + (k + 1))) := HST.out.up
                        have HSE : Hid (S = mid a2 es i ((r, s), c, le) (k + 1)) := by unfold Hid; rw [mid_step HXF.out, ← HSM.out, stepX_no (.inr ⟨h1, .inr HDB.out⟩)]
                        clear h1
                        obtain rfl : a2 = f2 := h2.symm
                        subst h3
                        go_upto_region 16 with fail
                        refine wp_region_held_drew (S := fun W => Below u0.heap.size u0 W) (by kernel_rfl) ((Below.refl _ u0).drew) (fun hS0 => ?_)
                        refine takeInH 0 87 ?v65 rfl rfl (by kernel_rfl) (by kernel_rfl) (by kernel_rfl) (fun _ _ _ h => h) (by kernel_rfl) hS0 ?hy65 ?_
                        case hy65 => (intro W hW; clear hW; go_simp; try rfl)
                        simp only [Act.put, List.setIfInBounds_toArray, List.set_cons_zero, List.set_cons_succ]
                        refine takeInH 1 88 ?v66 rfl rfl (by kernel_rfl) (by kernel_rfl) (by kernel_rfl) (fun _ _ _ h => h) (by kernel_rfl) hS0 ?hy66 ?_
                        case hy66 => (intro W hW; have e0 := bcell hW c0; have e1 := bcell hW c1; have e2 := bcell hW c2; have e3 := bcell hW c3; have e4 := bcell hW x0; have e5 := bcell hW x1; have e6 := bcell hW x2; clear hW; go_simp; try rfl)
                        simp only [Act.put, List.setIfInBounds_toArray, List.set_cons_zero, List.set_cons_succ]
                        refine takeInH 2 89 ?v67 rfl rfl (by kernel_rfl) (by kernel_rfl) (by kernel_rfl) (fun _ _ _ h => h) (by kernel_rfl) hS0 ?hy67 ?_
                        case hy67 => (intro W hW; clear hW; go_simp; try rfl)
                        simp only [Act.put, List.setIfInBounds_toArray, List.set_cons_zero, List.set_cons_succ]
                        refine takeInH 3 90 ?v68 rfl rfl (by kernel_rfl) (by kernel_rfl) (by kernel_rfl) (fun _ _ _ h => h) (by kernel_rfl) hS0 ?hy68 ?_
                        case hy68 => (intro W hW; clear hW; go_simp; try rfl)
                        simp only [Act.put, List.setIfInBounds_toArray, List.set_cons_zero, List.set_cons_succ]
                        refine takeInH 4 91 ?v69 rfl rfl (by kernel_rfl) (by kernel_rfl) (by kernel_rfl) (fun _ _ _ h => h) (by kernel_rfl) hS0 ?hy69 ?_
                        case hy69 => (intro W hW; clear hW; go_simp; try rfl)
                        simp only [Act.put, List.setIfInBounds_toArray, List.set_cons_zero, List.set_cons_succ]
                        refine takeInH 5 92 ?v70 rfl rfl (by kernel_rfl) (by kernel_rfl) (by kernel_rfl) (fun _ _ _ h => h) (by kernel_rfl) hS0 ?hy70 ?_
                        case hy70 => (intro W hW; clear hW; go_simp; try rfl)
                        simp only [Act.put, List.setIfInBounds_toArray, List.set_cons_zero, List.set_cons_succ]
                        refine takeInH 6 93 ?v71 rfl rfl (by kernel_rfl) (by kernel_rfl) (by kernel_rfl) (fun _ _ _ h => h) (by kernel_rfl) hS0 ?hy71 ?_
                        case hy71 => (intro W hW; have e0 := bcell hW c0; have e1 := bcell hW c1; have e2 := bcell hW c2; have e3 := bcell hW c3; have e4 := bcell hW x0; have e5 := bcell hW x1; have e6 := bcell hW x2; clear hW; go_simp; try rfl)
                        simp only [Act.put, List.setIfInBounds_toArray, List.set_cons_zero, List.set_cons_succ]
                        refine takeInH 7 94 ?v72 rfl rfl (by kernel_rfl) (by kernel_rfl) (by kernel_rfl) (fun _ _ _ h => h) (by kernel_rfl) hS0 ?hy72 ?_
                        case hy72 => (intro W hW; clear hW; go_simp; try rfl)
                        simp only [Act.put, List.setIfInBounds_toArray, List.set_cons_zero, List.set_cons_succ]
                        refine takeInH 8 95 ?v73 rfl rfl (by kernel_rfl) (by kernel_rfl) (by kernel_rfl) (fun _ _ _ h => h) (by kernel_rfl) hS0 ?hy73 ?_
                        case hy73 => (intro W hW; clear hW; go_simp; try rfl)
                        simp only [Act.put, List.setIfInBounds_toArray, List.set_cons_zero, List.set_cons_succ]
                        refine takeInH 9 96 ?v74 rfl rfl (by kernel_rfl) (by kernel_rfl) (by kernel_rfl) (fun _ _ _ h => h) (by kernel_rfl) hS0 ?hy74 ?_
                        case hy74 => (intro W hW; clear hW; go_simp; try rfl)
                        simp only [Act.put, List.setIfInBounds_toArray, List.set_cons_zero, List.set_cons_succ]
                        refine takeInH 10 97 ?v75 rfl rfl (by kernel_rfl) (by kernel_rfl) (by kernel_rfl) (fun _ _ _ h => h) (by kernel_rfl) hS0 ?hy75 ?_
                        case hy75 => (intro W hW; clear hW; go_simp; try rfl)
                        simp only [Act.put, List.setIfInBounds_toArray, List.set_cons_zero, List.set_cons_succ]
                        refine takeInH 11 98 ?v76 rfl rfl (by kernel_rfl) (by kernel_rfl) (by kernel_rfl) (fun _ _ _ h => h) (by kernel_rfl) hS0 ?hy76 ?_
                        case hy76 => (intro W hW; clear hW; go_simp; try rfl)
                        simp only [Act.put, List.setIfInBounds_toArray, List.set_cons_zero, List.set_cons_succ]
                        refine takeInH 12 99 ?v77 rfl rfl (by kernel_rfl) (by kernel_rfl) (by kernel_rfl) (fun _ _ _ h => h) (by kernel_rfl) hS0 ?hy77 ?_
                        case hy77 => (intro W hW; clear hW; go_simp; try rfl)
                        simp only [Act.put, List.setIfInBounds_toArray, List.set_cons_zero, List.set_cons_succ]
                        refine takeInH 13 100 ?v78 rfl rfl (by kernel_rfl) (by kernel_rfl) (by kernel_rfl) (fun _ _ _ h => h) (by kernel_rfl) hS0 ?hy78 ?_
                        case hy78 => (intro W hW; have e0 := bcell hW c0; have e1 := bcell hW c1; have e2 := bcell hW c2; have e3 := bcell hW c3; have e4 := bcell hW x0; have e5 := bcell hW x1; have e6 := bcell hW x2; clear hW; go_simp; try rfl)
                        simp only [Act.put, List.setIfInBounds_toArray, List.set_cons_zero, List.set_cons_succ]
                        refine takeInH 14 101 ?v79 rfl rfl (by kernel_rfl) (by kernel_rfl) (by kernel_rfl) (fun _ _ _ h => h) (by kernel_rfl) hS0 ?hy79 ?_
                        case hy79 => (intro W hW; clear hW; go_simp; try rfl)
                        simp only [Act.put, List.setIfInBounds_toArray, List.set_cons_zero, List.set_cons_succ]
                        refine takeInH 15 102 ?v80 rfl rfl (by kernel_rfl) (by kernel_rfl) (by kernel_rfl) (fun _ _ _ h => h) (by kernel_rfl) hS0 ?hy80 ?_
                        case hy80 => (intro W hW; clear hW; go_simp; try rfl)
                        simp only [Act.put, List.setIfInBounds_toArray, List.set_cons_zero, List.set_cons_succ]
                        refine takeInH 16 103 ?v81 rfl rfl (by kernel_rfl) (by kernel_rfl) (by kernel_rfl) (fun _ _ _ h => h) (by kernel_rfl) hS0 ?hy81 ?_
                        case hy81 => (intro W hW; have e0 := bcell hW c0; have e1 := bcell hW c1; have e2 := bcell hW c2; have e3 := bcell hW c3; have e4 := bcell hW x0; have e5 := bcell hW x1; have e6 := bcell hW x2; clear hW; go_simp; try rfl)
                        simp only [Act.put, List.setIfInBounds_toArray, List.set_cons_zero, List.set_cons_succ]
                        refine wpAnyH_ready (rs := [17]) (by kernel_rfl) (by simp) ?_
                        refine AllReadyH.cons rfl (fun K hK => ?_) AllReadyH.nil
                        go_simp
                        refine (Does_any r s pa na ca (some ⟨be, offe, none⟩) ne ce c le 1 a2 (strOfNums f3) _ (HEF.out.below (bel_next BU.out hS0))).mono ?_
                        rintro e9 wn ⟨rfl, hb⟩
                        rw [show doesB ((r, s), c, le) 1 a2 (strOfNums f3) = true from HDB.out]
                        refine hK.out _ _ ?hs82 (fun hS1 => ?_)
                        case hs82 => exact bel_next hS0 hb
                        clear hK K hb
                        try simp only [Act.put, List.setIfInBounds_toArray, List.set_cons_zero, List.set_cons_succ]
                        refine takeInH 18 105 ?v83 rfl rfl (by kernel_rfl) (by kernel_rfl) (by kernel_rfl) (fun _ _ _ h => h) (by kernel_rfl) hS1 ?hy83 ?_
                        case hy83 => (intro W hW; clear hW; go_simp; try rfl)
                        simp only [Act.put, List.setIfInBounds_toArray, List.set_cons_zero, List.set_cons_succ]
                        refine takeInH 19 106 ?v84 rfl rfl (by kernel_rfl) (by kernel_rfl) (by kernel_rfl) (fun _ _ _ h => h) (by kernel_rfl) hS1 ?hy84 ?_
                        case hy84 => (intro W hW; clear hW; go_simp; try rfl)
                        simp only [Act.put, List.setIfInBounds_toArray, List.set_cons_zero, List.set_cons_succ]
                        refine wpAnyH_done (by kernel_rfl) ?_ _
                        replace BU := hide (bel_next BU.out hS1)
                        replace BX1 := hide (bel_next BX1.out hS1)
                        clear c0 c1 c2 c3 x0 x1 x2
                        replace HNS := hide (HNS.out.below hS1)
                        have HNE := HNS
                        have HCE := HCS
                        have hnq := HNL.out
                        subst hnq
                        go_wp2
                        go_roundw
                        case rel => exact ⟨k + 1, _, _, _, by omega, by go_num, rfl, HNE, HCE, HSE, HTE, (show Hid _ from bel_next HB2.out (bel_next HBW.out BX1.out))⟩
                        case measure => simp [intOf]; omega
                    · have hq1 : (f1 == 1) = false := by rw [beq_eq_false_iff_ne]; exact h1
                      have hq2 : (f1 == 2) = false := by rw [beq_eq_false_iff_ne]; exact h3
                      have HTE : Hid (ST S (16 * i + (k + 1))) := HST.out.up
                      have HSE : Hid (S = mid a2 es i ((r, s), c, le) (k + 1)) := by unfold Hid; rw [mid_step HXF.out, ← HSM.out, stepX_no (.inr ⟨h1, .inl h3⟩)]
                      obtain rfl : a2 = f2 := h2.symm
                      go_upto_region 16 with fail
                      refine wp_region_held_drew (S := fun W => Below u0.heap.size u0 W) (by kernel_rfl) ((Below.refl _ u0).drew) (fun hS0 => ?_)
                      refine takeInH 0 87 ?v85 rfl rfl (by kernel_rfl) (by kernel_rfl) (by kernel_rfl) (fun _ _ _ h => h) (by kernel_rfl) hS0 ?hy85 ?_
                      case hy85 => (intro W hW; clear hW; go_simp; try rfl)
                      simp only [Act.put, List.setIfInBounds_toArray, List.set_cons_zero, List.set_cons_succ]
                      refine takeInH 1 88 ?v86 rfl rfl (by kernel_rfl) (by kernel_rfl) (by kernel_rfl) (fun _ _ _ h => h) (by kernel_rfl) hS0 ?hy86 ?_
                      case hy86 => (intro W hW; have e0 := bcell hW c0; have e1 := bcell hW c1; have e2 := bcell hW c2; have e3 := bcell hW c3; have e4 := bcell hW x0; have e5 := bcell hW x1; have e6 := bcell hW x2; clear hW; go_simp; try rfl)
                      simp only [Act.put, List.setIfInBounds_toArray, List.set_cons_zero, List.set_cons_succ]
                      refine takeInH 2 89 ?v87 rfl rfl (by kernel_rfl) (by kernel_rfl) (by kernel_rfl) (fun _ _ _ h => h) (by kernel_rfl) hS0 ?hy87 ?_
                      case hy87 => (intro W hW; clear hW; go_simp; try rfl)
                      simp only [Act.put, List.setIfInBounds_toArray, List.set_cons_zero, List.set_cons_succ]
                      refine takeInH 3 90 ?v88 rfl rfl (by kernel_rfl) (by kernel_rfl) (by kernel_rfl) (fun _ _ _ h => h) (by kernel_rfl) hS0 ?hy88 ?_
                      case hy88 => (intro W hW; clear hW; go_simp; try rfl)
                      simp only [Act.put, List.setIfInBounds_toArray, List.set_cons_zero, List.set_cons_succ]
                      refine takeInH 4 91 ?v89 rfl rfl (by kernel_rfl) (by kernel_rfl) (by kernel_rfl) (fun _ _ _ h => h) (by kernel_rfl) hS0 ?hy89 ?_
                      case hy89 => (intro W hW; clear hW; go_simp; try rfl)
                      simp only [Act.put, List.setIfInBounds_toArray, List.set_cons_zero, List.set_cons_succ]
                      refine takeInH 5 92 ?v90 rfl rfl (by kernel_rfl) (by kernel_rfl) (by kernel_rfl) (fun _ _ _ h => h) (by kernel_rfl) hS0 ?hy90 ?_
                      case hy90 => (intro W hW; clear hW; go_simp; try rfl)
                      simp only [Act.put, List.setIfInBounds_toArray, List.set_cons_zero, List.set_cons_succ]
                      refine takeInH 6 93 ?v91 rfl rfl (by kernel_rfl) (by kernel_rfl) (by kernel_rfl) (fun _ _ _ h => h) (by kernel_rfl) hS0 ?hy91 ?_
                      case hy91 => (intro W hW; have e0 := bcell hW c0; have e1 := bcell hW c1; have e2 := bcell hW c2; have e3 := bcell hW c3; have e4 := bcell hW x0; have e5 := bcell hW x1; have e6 := bcell hW x2; clear hW; go_simp; try rfl)
                      simp only [Act.put, List.setIfInBounds_toArray, List.set_cons_zero, List.set_cons_succ]
                      refine takeInH 7 94 ?v92 rfl rfl (by kernel_rfl) (by kernel_rfl) (by kernel_rfl) (fun _ _ _ h => h) (by kernel_rfl) hS0 ?hy92 ?_
                      case hy92 => (intro W hW; clear hW; go_simp; try rfl)
                      simp only [Act.put, List.setIfInBounds_toArray, List.set_cons_zero, List.set_cons_succ]
                      refine takeInH 8 95 ?v93 rfl rfl (by kernel_rfl) (by kernel_rfl) (by kernel_rfl) (fun _ _ _ h => h) (by kernel_rfl) hS0 ?hy93 ?_
                      case hy93 => (intro W hW; clear hW; go_simp; try rfl)
                      simp only [Act.put, List.setIfInBounds_toArray, List.set_cons_zero, List.set_cons_succ]
                      refine takeInH 9 96 ?v94 rfl rfl (by kernel_rfl) (by kernel_rfl) (by kernel_rfl) (fun _ _ _ h => h) (by kernel_rfl) hS0 ?hy94 ?_
                      case hy94 => (intro W hW; clear hW; go_simp; try rfl)
                      simp only [Act.put, List.setIfInBounds_toArray, List.set_cons_zero, List.set_cons_succ]
                      refine takeNoH 10 97 rfl rfl (by kernel_rfl) (by kernel_rfl) (by kernel_rfl) (fun _ _ _ h => h) (by kernel_rfl) hS0 ?_
                      simp only [Act.put, List.setIfInBounds_toArray, List.set_cons_zero, List.set_cons_succ]
                      refine takeNoH 11 98 rfl rfl (by kernel_rfl) (by kernel_rfl) (by kernel_rfl) (fun _ _ _ h => h) (by kernel_rfl) hS0 ?_
                      simp only [Act.put, List.setIfInBounds_toArray, List.set_cons_zero, List.set_cons_succ]
                      refine takeNoH 12 99 rfl rfl (by kernel_rfl) (by kernel_rfl) (by kernel_rfl) (fun _ _ _ h => h) (by kernel_rfl) hS0 ?_
                      simp only [Act.put, List.setIfInBounds_toArray, List.set_cons_zero, List.set_cons_succ]
                      refine takeNoH 13 100 rfl rfl (by kernel_rfl) (by kernel_rfl) (by kernel_rfl) (fun _ _ _ h => h) (by kernel_rfl) hS0 ?_
                      simp only [Act.put, List.setIfInBounds_toArray, List.set_cons_zero, List.set_cons_succ]
                      refine takeNoH 14 101 rfl rfl (by kernel_rfl) (by kernel_rfl) (by kernel_rfl) (fun _ _ _ h => h) (by kernel_rfl) hS0 ?_
                      simp only [Act.put, List.setIfInBounds_toArray, List.set_cons_zero, List.set_cons_succ]
                      refine takeNoH 15 102 rfl rfl (by kernel_rfl) (by kernel_rfl) (by kernel_rfl) (fun _ _ _ h => h) (by kernel_rfl) hS0 ?_
                      simp only [Act.put, List.setIfInBounds_toArray, List.set_cons_zero, List.set_cons_succ]
                      refine takeNoH 16 103 rfl rfl (by kernel_rfl) (by kernel_rfl) (by kernel_rfl) (fun _ _ _ h => h) (by kernel_rfl) hS0 ?_
                      simp only [Act.put, List.setIfInBounds_toArray, List.set_cons_zero, List.set_cons_succ]
                      refine takeNoH 17 104 rfl rfl (by kernel_rfl) (by kernel_rfl) (by kernel_rfl) (fun _ _ _ h => h) (by kernel_rfl) hS0 ?_
                      simp only [Act.put, List.setIfInBounds_toArray, List.set_cons_zero, List.set_cons_succ]
                      refine takeNoH 18 105 rfl rfl (by kernel_rfl) (by kernel_rfl) (by kernel_rfl) (fun _ _ _ h => h) (by kernel_rfl) hS0 ?_
                      simp only [Act.put, List.setIfInBounds_toArray, List.set_cons_zero, List.set_cons_succ]
                      refine takeInH 19 106 ?v95 rfl rfl (by kernel_rfl) (by kernel_rfl) (by kernel_rfl) (fun _ _ _ h => h) (by kernel_rfl) hS0 ?hy95 ?_
                      case hy95 => (intro W hW; clear hW; go_simp; try rfl)
                      simp only [Act.put, List.setIfInBounds_toArray, List.set_cons_zero, List.set_cons_succ]
                      refine wpAnyH_done (by kernel_rfl) ?_ _
                      replace BU := hide (bel_next BU.out hS0)
                      replace BX1 := hide (bel_next BX1.out hS0)
                      clear c0 c1 c2 c3 x0 x1 x2
                      replace HNS := hide (HNS.out.below hS0)
                      generalize u0.drew = wm at *
                      have HNE := HNS
                      have HCE := HCS
                      have hnq := HNL.out
                      subst hnq
                      go_wp2
                      go_roundw
                      case rel => exact ⟨k + 1, _, _, _, by omega, by go_num, rfl, HNE, HCE, HSE, HTE, (show Hid _ from bel_next HB2.out (bel_next HBW.out BX1.out))⟩
                      case measure => simp [intOf]; omega
                · have hq1 : (f2 == a2) = false := by rw [beq_eq_false_iff_ne]; exact h2
                  have HTE : Hid (ST S (16 * i + (k + 1))) := HST.out.up
                  have HSE : Hid (S = mid a2 es i ((r, s), c, le) (k + 1)) := by unfold Hid; rw [mid_step HXF.out, ← HSM.out, stepX_no (.inl h2)]
                  go_upto_region 16 with fail
                  refine wp_region_held_drew (S := fun W => Below u0.heap.size u0 W) (by kernel_rfl) ((Below.refl _ u0).drew) (fun hS0 => ?_)
                  refine takeInH 0 87 ?v96 rfl rfl (by kernel_rfl) (by kernel_rfl) (by kernel_rfl) (fun _ _ _ h => h) (by kernel_rfl) hS0 ?hy96 ?_
                  case hy96 => (intro W hW; clear hW; go_simp; try rfl)
                  simp only [Act.put, List.setIfInBounds_toArray, List.set_cons_zero, List.set_cons_succ]
                  refine takeInH 1 88 ?v97 rfl rfl (by kernel_rfl) (by kernel_rfl) (by kernel_rfl) (fun _ _ _ h => h) (by kernel_rfl) hS0 ?hy97 ?_
                  case hy97 => (intro W hW; have e0 := bcell hW c0; have e1 := bcell hW c1; have e2 := bcell hW c2; have e3 := bcell hW c3; have e4 := bcell hW x0; have e5 := bcell hW x1; have e6 := bcell hW x2; clear hW; go_simp; try rfl)
                  simp only [Act.put, List.setIfInBounds_toArray, List.set_cons_zero, List.set_cons_succ]
                  refine takeInH 2 89 ?v98 rfl rfl (by kernel_rfl) (by kernel_rfl) (by kernel_rfl) (fun _ _ _ h => h) (by kernel_rfl) hS0 ?hy98 ?_
                  case hy98 => (intro W hW; clear hW; go_simp; try rfl)
                  simp only [Act.put, List.setIfInBounds_toArray, List.set_cons_zero, List.set_cons_succ]
                  refine takeInH 3 90 ?v99 rfl rfl (by kernel_rfl) (by kernel_rfl) (by kernel_rfl) (fun _ _ _ h => h) (by kernel_rfl) hS0 ?hy99 ?_
                  case hy99 => (intro W hW; clear hW; go_simp; try rfl)
                  simp only [Act.put, List.setIfInBounds_toArray, List.set_cons_zero, List.set_cons_succ]
                  refine takeInH 4 91 ?v100 rfl rfl (by kernel_rfl) (by kernel_rfl) (by kernel_rfl) (fun _ _ _ h => h) (by kernel_rfl) hS0 ?hy100 ?_
                  case hy100 => (intro W hW; clear hW; go_simp; try rfl)
                  simp only [Act.put, List.setIfInBounds_toArray, List.set_cons_zero, List.set_cons_succ]
                  refine takeNoH 5 92 rfl rfl (by kernel_rfl) (by kernel_rfl) (by kernel_rfl) (fun _ _ _ h => h) (by kernel_rfl) hS0 ?_
                  simp only [Act.put, List.setIfInBounds_toArray, List.set_cons_zero, List.set_cons_succ]
                  refine takeNoH 6 93 rfl rfl (by kernel_rfl) (by kernel_rfl) (by kernel_rfl) (fun _ _ _ h => h) (by kernel_rfl) hS0 ?_
                  simp only [Act.put, List.setIfInBounds_toArray, List.set_cons_zero, List.set_cons_succ]
                  refine takeNoH 7 94 rfl rfl (by kernel_rfl) (by kernel_rfl) (by kernel_rfl) (fun _ _ _ h => h) (by kernel_rfl) hS0 ?_
                  simp only [Act.put, List.setIfInBounds_toArray, List.set_cons_zero, List.set_cons_succ]
                  refine takeInH 8 95 ?v101 rfl rfl (by kernel_rfl) (by kernel_rfl) (by kernel_rfl) (fun _ _ _ h => h) (by kernel_rfl) hS0 ?hy101 ?_
                  case hy101 => (intro W hW; clear hW; go_simp; try rfl)
                  simp only [Act.put, List.setIfInBounds_toArray, List.set_cons_zero, List.set_cons_succ]
                  refine takeInH 9 96 ?v102 rfl rfl (by kernel_rfl) (by kernel_rfl) (by kernel_rfl) (fun _ _ _ h => h) (by kernel_rfl) hS0 ?hy102 ?_
                  case hy102 => (intro W hW; clear hW; go_simp; try rfl)
                  simp only [Act.put, List.setIfInBounds_toArray, List.set_cons_zero, List.set_cons_succ]
                  refine takeNoH 10 97 rfl rfl (by kernel_rfl) (by kernel_rfl) (by kernel_rfl) (fun _ _ _ h => h) (by kernel_rfl) hS0 ?_
                  simp only [Act.put, List.setIfInBounds_toArray, List.set_cons_zero, List.set_cons_succ]
                  refine takeNoH 11 98 rfl rfl (by kernel_rfl) (by kernel_rfl) (by kernel_rfl) (fun _ _ _ h => h) (by kernel_rfl) hS0 ?_
                  simp only [Act.put, List.setIfInBounds_toArray, List.set_cons_zero, List.set_cons_succ]
                  refine takeNoH 12 99 rfl rfl (by kernel_rfl) (by kernel_rfl) (by kernel_rfl) (fun _ _ _ h => h) (by kernel_rfl) hS0 ?_
                  simp only [Act.put, List.setIfInBounds_toArray, List.set_cons_zero, List.set_cons_succ]
                  refine takeNoH 13 100 rfl rfl (by kernel_rfl) (by kernel_rfl) (by kernel_rfl) (fun _ _ _ h => h) (by kernel_rfl) hS0 ?_
                  simp only [Act.put, List.setIfInBounds_toArray, List.set_cons_zero, List.set_cons_succ]
                  refine takeNoH 14 101 rfl rfl (by kernel_rfl) (by kernel_rfl) (by kernel_rfl) (fun _ _ _ h => h) (by kernel_rfl) hS0 ?_
                  simp only [Act.put, List.setIfInBounds_toArray, List.set_cons_zero, List.set_cons_succ]
                  refine takeNoH 15 102 rfl rfl (by kernel_rfl) (by kernel_rfl) (by kernel_rfl) (fun _ _ _ h => h) (by kernel_rfl) hS0 ?_
                  simp only [Act.put, List.setIfInBounds_toArray, List.set_cons_zero, List.set_cons_succ]
                  refine takeNoH 16 103 rfl rfl (by kernel_rfl) (by kernel_rfl) (by kernel_rfl) (fun _ _ _ h => h) (by kernel_rfl) hS0 ?_
                  simp only [Act.put, List.setIfInBounds_toArray, List.set_cons_zero, List.set_cons_succ]
                  refine takeNoH 17 104 rfl rfl (by kernel_rfl) (by kernel_rfl) (by kernel_rfl) (fun _ _ _ h => h) (by kernel_rfl) hS0 ?_
                  simp only [Act.put, List.setIfInBounds_toArray, List.set_cons_zero, List.set_cons_succ]
                  refine takeNoH 18 105 rfl rfl (by kernel_rfl) (by kernel_rfl) (by kernel_rfl) (fun _ _ _ h => h) (by kernel_rfl) hS0 ?_
                  simp only [Act.put, List.setIfInBounds_toArray, List.set_cons_zero, List.set_cons_succ]
                  refine takeInH 19 106 ?v103 rfl rfl (by kernel_rfl) (by kernel_rfl) (by kernel_rfl) (fun _ _ _ h => h) (by kernel_rfl) hS0 ?hy103 ?_
                  case hy103 => (intro W hW; clear hW; go_simp; try rfl)
                  simp only [Act.put, List.setIfInBounds_toArray, List.set_cons_zero, List.set_cons_succ]
                  refine wpAnyH_done (by kernel_rfl) ?_ _
                  replace BU := hide (bel_next BU.out hS0)
                  replace BX1 := hide (bel_next BX1.out hS0)
                  clear c0 c1 c2 c3 x0 x1 x2
                  replace HNS := hide (HNS.out.below hS0)
                  generalize u0.drew = wm at *
                  have HNE := HNS
                  have HCE := HCS
                  have hnq := HNL.out
                  subst hnq
                  go_wp2
                  go_roundw
                  case rel => exact ⟨k + 1, _, _, _, by omega, by go_num, rfl, HNE, HCE, HSE, HTE, (show Hid _ from bel_next HB2.out (bel_next HBW.out BX1.out))⟩
                  case measure => simp [intOf]; omega
              · obtain rfl : k = ne := by omega
                have HSF : Hid (S = foldS a2 (es.take (i + 1))) := by rw [HSM.out]; exact mid_end HX.out HLE.out
                have HST2 : Hid (ST S (16 * (i + 1))) := HST.out.mono (by omega)
                have c3 := bcell HBW0.out C3.out
                clear HSM HST
                go_wp2
                go_roundw
                case rel => exact ⟨i + 1, ps, cs, S, by omega, by go_num, rfl, HNS, HCS, HSF, HST2, HBW0⟩
                case measure => simp [intOf]; omega
          · obtain rfl : n = i := by omega
            have HSF2 : Hid (S = foldS a2 es) := by have := HSF.out; rwa [← HEL.out, List.take_length] at this
            clear HSF HST
            replace BB := hide (bel_next BB.out HB.out)
            have HNS1 := HNS
            clear HNS HB
            go_upto_region 22 with fail
            obtain ⟨nS, hnS⟩ : ∃ x, S.length = x := ⟨_, rfl⟩
            rw [hnS] at HNS1 ⊢
            clear hnS
            have HW0 := hide (bel1 wr (.cells #[] 48))
            obtain ⟨w4, hw4⟩ : ∃ x, x = wr.alloc (.cells #[] 48) := ⟨_, rfl⟩
            rw [← hw4] at HW0 ⊢
            generalize hgr : wr.heap.size = g4 at hw4 ⊢
            clear hgr
            have HNW0 := hide (NSS.nil w4 (some ⟨g4, 0, none⟩))
            replace HNS1 := hide (HNS1.out.below HW0.out)
            replace BB := hide (bel_next BB.out HW0.out)
            clear HW0 hw4
            have HV4 := hide (HV.out.below BB.out)
            go_wp2
            go_loopw [14, 15] (fun V v wr2 => ∃ (i : Nat) (ps : Option Addr) (cs : Nat) (S : List En), i ≤ n ∧ v = .int .i64 i ∧ V = .slice ps S.length cs ∧ Hid (NSS wr2 ps S.length S) ∧ Hid (S = putAll l a2 (keysE (l.take i))) ∧ Hid (Below w4.heap.size w4 wr2)) (fun _ v _ => n - (intOf v).toNat)
            case atStart => exact ⟨0, some ⟨g4, 0, none⟩, 0, [], by omega, rfl, rfl, HNW0, (show [] = _ by simp [putAll, keysE]), Below.refl _ _⟩
            case round =>
              clear HNW0
              obtain ⟨i, pw, cw, T, hi, rfl, rfl, HNW, HTF, HB⟩ := hrel
              by_cases hlt : i < n
              · obtain ⟨b, off, rfl⟩ := HV4.out.addr (by omega)
                obtain ⟨r, s, pa, na, ca, pe, ne, ce, c, le, hx, q0, q1, q2, q3, hN, _, hEf, _⟩ := HV4.out.at i hlt
                have C3 := hide q3
                have HX := hide hx
                have HEF := hide hEf
                have HME := hide (HM.out _ (List.mem_of_getElem? hx))
                have HLE := hide hEf.1.1
                have hne : ne ≤ 16 := by rw [← hEf.1.1]; exact eff_len HME.out
                have hi0 : (0 : Int) ≤ (i : Int) := by omega
                have hi1 : (i : Int) < (n : Int) := by omega
                have hi14 : i < 14 := by omega
                have HT0 : Hid (T = putAll l a2 (kAt l i ((r, s), c, le) 0)) := by unfold Hid; rw [kAt_zero]; exact HTF.out
                clear hx q0 q1 q2 q3 hN hEf HTF
                go_wp2
                go_loopw [14, 16] (fun V v wr2 => ∃ (k : Nat) (ps : Option Addr) (cs : Nat) (S : List En), k ≤ ne ∧ v = .int .i64 k ∧ V = .slice ps S.length cs ∧ Hid (NSS wr2 ps S.length S) ∧ Hid (S = putAll l a2 (kAt l i ((r, s), c, le) k)) ∧ Hid (Below wr.heap.size wr wr2)) (fun _ v _ => ne - (intOf v).toNat)
                case atStart => exact ⟨0, pw, cw, T, by omega, rfl, rfl, HNW, HT0, Below.refl _ _⟩
                case round =>
                  clear HNW HT0
                  obtain ⟨k, pw, cw, T, hk, rfl, rfl, HNW, HTF, HB2⟩ := hrel
                  have HBW := hide (bel_next HB.out HB2.out)
                  have c3 := bcell HBW.out C3.out
                  by_cases hkn : k < ne
                  · obtain ⟨be, offe, rfl⟩ := HEF.out.addr8 (by omega)
                    obtain ⟨⟨f1, f2, f3, f4, f5, f6⟩, hxf⟩ : ∃ x, le[k]? = some x := ⟨_, List.getElem?_eq_getElem (by rw [HLE.out]; exact hkn)⟩
                    obtain ⟨y0, y1, y2, y3, y4, y5⟩ := (HEF.out.below HBW.out).at k _ hxf
                    simp only at y0 y1 y2 y3 y4 y5
                    have HXF : Hid (((((r, s), c, le) : Evt).2.2)[k]? = some (f1, f2, f3, f4, f5, f6)) := hxf
                    have hk0 : (0 : Int) ≤ (k : Int) := by omega
                    have hk1 : (k : Int) < (ne : Int) := by omega
                    have HTN : Hid (putS T (strOfNums f3) (liveL l a2 (strOfNums f3)) = putAll l a2 (kAt l i ((r, s), c, le) (k + 1))) := by
                      unfold Hid
                      rw [kAt_step HXF.out, ← HTF.out]
                      rfl
                    have HSR : Hid (SrtK T) := by rw [HTF.out]; exact kAt_cn _ _ _ _ _
                    have HTL : Hid (T.length ≤ 300) := by rw [HTF.out]; exact kAt_len HM.out (by omega) (by omega)
                    have HLL := hide (liveL_len l a2 (strOfNums f3))
                    have HLV := hide (Live_any (some ⟨b, off, none⟩) n cap l a2 (strOfNums f3) wr (HV4.out.below HBW.out) (by omega))
                    generalize liveL l a2 (strOfNums f3) = lv at *
                    clear hxf HTF
                    go_wp2_with (first | (go_at_call 27; refine HLV.out.mono ?_; rintro e w5 ⟨v5, rfl, ho5, hb5⟩; obtain ⟨p5, c5, rfl, hd5, hc5⟩ := ho5.open; have HD5 := hide hd5; have HC5 := hide hc5; have HB5 := hide hb5; clear ho5 hd5 hc5 hb5 y0 y1 y2 y3 y4 y5 c3) | (go_at_call 26; refine (PutS_ref pw _ cw T (strOfNums f3) p5 _ c5 lv _ (HNW.out.below HB5.out) HSR.out HD5.out HC5.out (by have := HTL.out; omega) (by have := HLL.out; rw [HLEN.out] at this; omega)).mono ?_; rintro e w6 ⟨p6, c6, rfl, hn6, hc6, hb6⟩; have HN6 := hide hn6; have HB6 := hide hb6; clear hn6 hc6 hb6))
                    go_roundw
                    case rel => exact ⟨k + 1, p6, c6, _, by omega, by go_num, rfl, HN6, HTN, (show Hid _ from bel_next HB2.out (bel_next HB5.out HB6.out))⟩
                    case measure => simp [intOf]; omega
                  · obtain rfl : k = ne := by omega
                    have HT2 : Hid (T = putAll l a2 (keysE (l.take (i + 1)))) := by rw [HTF.out]; exact kAt_end HX.out HLE.out
                    clear HTF
                    go_wp2
                    go_roundw
                    case rel => exact ⟨i + 1, pw, cw, T, by omega, by go_num, rfl, HNW, HT2, HBW⟩
                    case measure => simp [intOf]; omega
              · obtain rfl : n = i := by omega
                have HEQ : Hid (S = T) := by
                  have q := HTF.out
                  rw [← HLEN.out, List.take_length] at q
                  rw [HSF2.out, q]
                  exact folds_meet HM.out (HTI.out.all (by rw [HEL.out, HLEN.out])) HTI.out.ord a2
                have HSM := hide (SameS_ref ps nS cs S pw T.length cw T wr (HNS1.out.below HB.out) HNW.out)
                rw [decide_eq_true HEQ.out] at HSM
                generalize T.length = nT at *
                go_wp2_with (first | (go_at_call 16; refine HSM.out.mono ?_; rintro e w7 ⟨rfl, hb7⟩; have HB7 := hide hb7; clear hb7) | (go_at_call 8; refine (awake8 _).mono ?_; rintro e wz ⟨rfl, hb⟩))
                go_ret
                exact ⟨rfl, bel_next BB.out (bel_next HB.out (bel_next HB7.out hb))⟩
    · go_enter Try.func5, Try.ntmps5
      go_wp2_with (go_at_call 8; refine (awake8 _).mono ?_; rintro e wz ⟨rfl, hb⟩)
      go_ret
      exact ⟨rfl, bel_next BB.out hb⟩
  · go_enter Try.func5, Try.ntmps5
    go_wp2_with (go_at_call 8; refine (awake8 _).mono ?_; rintro e wz ⟨rfl, hb⟩)
    go_ret
    exact ⟨rfl, bel_next BB.out hb⟩

/-! ### The row's step -/
set_option maxRecDepth 100000 in
theorem lifted (os : Os) (started : os.Started) (H : Type) (enc : TypeId × Value → H) :
    ReturnsInHanded {} Try.checked os 5 .any (Rows.awsetFoldsSpec.pre6 enc Try.prog Try.f5 Rows.awsetFoldsRow.domain false) (Rows.awsetFoldsSpec.post enc Try.prog Try.f5 false true false false) := by
  refine returnsInHanded_of_change_sized (C := Try.checked) own started (by kernel_rfl) Try.func5
    (ChangeSpec.witness6 (enc := enc) (C := Try.checked) false ⟨#[], #[.slice none 0 0, .slice none 0 0, .int .i64 0], []⟩ 8 (by kernel_rfl) (by kernel_rfl) (by kernel_rfl) (by kernel_rfl)) ?_
  intro W base args ds gs before hval0 hW hcnd hz0 _
  have hval : ∀ (j : Nat) t v, Try.f5.params[j]? = some t → args[j]? = some v → Value.okWide Try.prog W .any base t v := hval0
  have hz : (DataW.weightsEach Try.prog (Try.f5.params.toList ++ Rows.awsetFoldsSpec.plain.varTypes Try.prog) (ds ++ gs)).all (· ≤ reachBytes) = true := hz0
  have hW' := hW
  obtain ⟨p, q, hA0, hV, rfl, hfz, hnd⟩ := hW
  have hA : DataW.TrodAll enc Try.prog W 0 (fun _ => true) true Try.f5.params.toList args.toList ds p := hA0
  rw [Try.params5] at hA hval hz
  obtain ⟨v0, vs0, d0, ds0, p0, q0, hargs, rfl, rfl, h0, r0⟩ := trodAll_cons hA
  obtain ⟨v1, vs1, d1, ds1, p1, q1, rfl, rfl, rfl, h1, r1⟩ := trodAll_cons r0
  obtain ⟨v2, vs2, d2, ds2, p2, q2, rfl, rfl, rfl, h2, r2⟩ := trodAll_cons r1
  obtain ⟨rfl, rfl, rfl⟩ := trodAll_nil r2
  obtain rfl : args = #[v0, v1, v2] := by cases args; simp_all
  obtain ⟨rfl, rfl⟩ := trodVars_none hV
  have k0 := h0
  have lt0 : ∀ x ∈ p0, x.block < W.heap.size := by obtain ⟨m, hm⟩ := k0; exact DataW.trod_lt m _ _ _ hm
  have w0 : InEs W v0 := in_events (hval 0 51 v0 rfl rfl) h0 (fun n hn => by have := List.all_eq_true.1 hz n (DataW.weights_mem_each (j := 0) (t := 51) rfl rfl n hn); simpa using this)
  have k1 := h1
  have lt1 : ∀ x ∈ p1, x.block < W.heap.size := by obtain ⟨m, hm⟩ := k1; exact DataW.trod_lt m _ _ _ hm
  have w1 : InU W v1 := in_u8s (hval 1 52 v1 rfl rfl) h1 (fun n hn => by have := List.all_eq_true.1 hz n (DataW.weights_mem_each (j := 1) (t := 52) rfl rfl n hn); simpa using this)
  obtain ⟨a2, rfl, rfl, rfl, w2⟩ := open_int Try.underlying3 (hval 2 3 v2 rfl rfl) h2
  clear hA0 hval0 hz0
  refine (walk v0 v1 a2 W w0 w1 w2).mono fun e W' ⟨he, bel⟩ => ?_
  subst he
  exact ⟨_, rfl, _, _, _, [], _, [], hW', trodAll_mk1 (shut_bool Try.underlying4 _), (trodAll_cons_mk (Below.trod laidOut (by kernel_rfl) (of_decide_eq_true (by kernel_rfl)) k0 bel lt0) (trodAll_cons_mk (Below.trod laidOut (by kernel_rfl) (of_decide_eq_true (by kernel_rfl)) k1 bel lt1) (trodAll_cons_mk (shut_int Try.underlying3 w2) trodAll_mk0))), rfl, bel.frame _, fun h => by cases h⟩

theorem over : Rows.awsetFoldsRow.holds Try.pinned (OpenSpec.ofChange Rows.awsetFoldsSpec) :=
  OpenClaim.holds_of_wide 5 Try.f5 rfl rfl rfl rfl rfl rfl rfl ⟨rfl, rfl, rfl, rfl, rfl⟩ rfl rfl rfl rfl rfl (by kernel_rfl) Try.func5 (by kernel_rfl)
    (of_decide_eq_true (by kernel_rfl)) (by unfold Func.isWrapper; first | (rw [if_pos (by decide +kernel)]; kernel_rfl) | (rw [if_neg (by decide +kernel)]; exact ⟨rfl, rfl⟩))
    (fun os started H enc _ => lifted os started H enc)
end Go.Proofs.Ytoogahfmjgajpaa.awsetFolds
namespace Go.Proofs.Ytoogahfmjgajpaa
theorem awsetFolds_holds : Rows.AwsetFoldsSaid := awsetFolds.over
end Go.Proofs.Ytoogahfmjgajpaa
