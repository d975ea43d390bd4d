/- The statement's own fold of layer 9, cleaned or not. -/
import Derived.Test.YtiodlpoeifmldaaD1
import Derived.Test.YtiodlpoeifmldaaZ19
import Derived.Test.YtiodlpoeifmldaaZ15
namespace Go.Proofs.Ytiodlpoeifmldaa
open Go.RowKit Go.Lib
set_option linter.unusedVariables false
set_option maxRecDepth 2000 in
set_option maxHeartbeats 16000000 in
theorem fold9_any (p8 : Option Addr) (n c8 : Nat) (es : List Evt) (a2 : Int) (cl : Bool) (w2 : World) (hE : EVS w2 p8 n es) (hme : ∀ e ∈ es, mayE e = true) (hn : n ≤ 14) : Calls Try.prog 28 #[.slice p8 n c8, .int .i64 a2, .bool cl] w2 fun e w' => ∃ q cq S, e = .returned (.tuple #[.slice q S.length cq, .bool true]) ∧ NSS w' q S.length S ∧ CP q S.length cq ∧ S = foldC a2 (knF cl es) es n ∧ ST9 S (16 * n) ∧ Below w2.heap.size w2 w' := by
  have HEV := hide hE
  have HELN := hide hE.len
  have HMES := hide hme
  clear hE hme
  have HN0 := hide (NSS.nil (w2.alloc (.cells #[] 48)) (some ⟨w2.heap.size, 0, none⟩))
  have HB0 := hide (bel1 w2 (.cells #[] 48))
  have HT0 : Hid (ST9 [] (16 * 0)) := ST9.nil
  go_enter Try.func28, Try.ntmps28
  go_wp2
  go_loopw [8, 9] (fun V v wr => ∃ (i : Nat) (ps : Option Addr) (cs : Nat) (S : List En), i ≤ n ∧ v = .int .i64 i ∧ V = .slice ps S.length cs ∧ Hid (NSS wr ps S.length S) ∧ Hid (CP ps S.length cs) ∧ Hid (S = foldC a2 (knF cl es) es i) ∧ Hid (ST9 S (16 * i)) ∧ Hid (Below w2.heap.size w2 wr)) (fun _ v _ => n - (intOf v).toNat)
  case atStart => exact ⟨0, some ⟨w2.heap.size, 0, none⟩, 0, [], by omega, rfl, rfl, HN0, ⟨Nat.le_refl _, by decide, fun _ => rfl⟩, (show [] = foldC a2 (knF cl es) es 0 by rfl), HT0, HB0⟩
  case round =>
    clear HN0 HT0 HB0
    obtain ⟨i, ps, cs, S, hi, rfl, rfl, HNS, HCS, HSF, HST, HB⟩ := hrel
    by_cases hlt : i < n
    · obtain ⟨b, off, rfl⟩ := HEV.out.addr (by omega)
      obtain ⟨r, s, pa, na, ca, pe, ne, ce, c, le, hx, q0, q1, q2, q3, hN, _, hEf, _⟩ := HEV.out.at i hlt
      have C0 := hide q0
      have C1 := hide q1
      have C2 := hide q2
      have C3 := hide q3
      have HX := hide hx
      have HPA := hide hN
      have HEF := hide hEf
      have HME := hide (HMES.out _ (List.mem_of_getElem? hx))
      have HMD : Hid (mayD (r, s) = true) := may_dot HME.out
      have HMC : Hid (mayC c = true) := may_past HME.out
      have HLE := hide hEf.1.1
      have hne : ne ≤ 16 := by rw [← hEf.1.1]; exact eff9_len HME.out
      have hi0 : (0 : Int) ≤ (i : Int) := by omega
      have hi1 : (i : Int) < (n : Int) := by omega
      have hi14 : i < 14 := by omega
      obtain ⟨S0, hS0⟩ : ∃ x, x = foldC a2 (knF cl es) es i := ⟨_, rfl⟩
      have HS00 := hide hS0
      have HS0 : Hid (S = mid9 a2 S0 ((r, s), c, le) 0) := by unfold Hid; rw [mid9_zero, hS0]; exact HSF.out
      have HT1 : Hid (ST9 S (16 * i + 0)) := HST.out
      clear hx q0 q1 q2 q3 hN hEf HSF HST hS0
      go_wp2
      go_loopw [8, 10] (fun V v wr2 => ∃ (k : Nat) (ps : Option Addr) (cs : Nat) (S : List En), k ≤ ne ∧ v = .int .i64 k ∧ V = .slice ps S.length cs ∧ Hid (NSS wr2 ps S.length S) ∧ Hid (CP ps S.length cs) ∧ Hid (S = mid9 a2 S0 ((r, s), c, le) k) ∧ Hid (ST9 S (16 * i + k)) ∧ Hid (Below wr.heap.size wr wr2)) (fun _ v _ => ne - (intOf v).toNat)
      case atStart => exact ⟨0, ps, cs, S, by omega, rfl, rfl, HNS, HCS, HS0, HT1, Below.refl _ _⟩
      case round =>
        clear HNS HCS HS0 HT1
        obtain ⟨k, ps, cs, S, hk, rfl, rfl, HNS, HCS, HSM, HST, HB2⟩ := hrel
        have HBW0 := hide (bel_next HB.out HB2.out)
        by_cases hkn : k < ne
        · obtain ⟨be, offe, rfl⟩ := HEF.out.addr8 (by omega)
          obtain ⟨⟨f1, f2, f3, f4, f5, f6⟩, hxf⟩ : ∃ x, le[k]? = some x := ⟨_, List.getElem?_eq_getElem (by rw [HLE.out]; exact hkn)⟩
          obtain ⟨y0, y1, y2, y3, y4, y5⟩ := (HEF.out.below HBW0.out).at k _ hxf
          simp only at y0 y1 y2 y3 y4 y5
          have HXF : Hid (((((r, s), c, le) : Evt).2.2)[k]? = some (f1, f2, f3, f4, f5, f6)) := hxf
          have HMK : Hid (mayK (strOfNums f3) = true) := may_key9 (eff9_may HME.out hxf)
          have hk0 : (0 : Int) ≤ (k : Int) := by omega
          have hk1 : (k : Int) < (ne : Int) := by omega
          have c3 := bcell HBW0.out C3.out
          clear hxf
          go_upto_region 11 with fail
          clear y0 y1 y2 y3 y4 y5 c3
          have X0 := hide (cell_new wr #[.int .i64 f1, .int .i64 f2, .string (strOfNums f3), .int .i64 f4, .int .i64 f5, .string (strOfNums f6)] 62 _ rfl 0 _ rfl)
          have X1 := hide (cell_new wr #[.int .i64 f1, .int .i64 f2, .string (strOfNums f3), .int .i64 f4, .int .i64 f5, .string (strOfNums f6)] 62 _ rfl 1 _ rfl)
          have X2 := hide (cell_new wr #[.int .i64 f1, .int .i64 f2, .string (strOfNums f3), .int .i64 f4, .int .i64 f5, .string (strOfNums f6)] 62 _ rfl 2 _ rfl)
          have HBW := hide (bel1 wr (.cells #[.int .i64 f1, .int .i64 f2, .string (strOfNums f3), .int .i64 f4, .int .i64 f5, .string (strOfNums f6)] 62))
          replace HNS := hide (HNS.out.below HBW.out)
          have BU := hide (bel_next HBW0.out HBW.out)
          generalize hgb : wr.heap.size = gb at X0 X1 X2 ⊢
          obtain ⟨u0, hu0⟩ : ∃ x, x = wr.alloc (.cells #[.int .i64 f1, .int .i64 f2, .string (strOfNums f3), .int .i64 f4, .int .i64 f5, .string (strOfNums f6)] 62) := ⟨_, rfl⟩
          rw [← hu0] at X0 X1 X2 HNS BU HBW ⊢
          have BX1 : Hid (Below u0.heap.size u0 u0) := Below.refl _ _
          clear hu0 hgb
          obtain ⟨ns, hns⟩ : ∃ x, S.length = x := ⟨_, rfl⟩
          have HNL := hide hns
          rw [hns] at HNS HCS ⊢
          clear hns
          have c0 := bcell BU.out C0.out
          have c1 := bcell BU.out C1.out
          have c2 := bcell BU.out C2.out
          have c3 := bcell BU.out C3.out
          have x0 := bcell BX1.out X0.out
          have x1 := bcell BX1.out X1.out
          have x2 := bcell BX1.out X2.out
          by_cases h2 : f2 = a2
          · by_cases h1 : f1 = 2
            · have hq1 : ¬ ((2 : Int) = 1) := by decide
              have HDD : Hid (∀ W, NSS W ps ns S → NS W pa na c → Calls Try.prog 10 #[.slice ps ns cs, .string (strOfNums f3), .agg #[.int .i64 r, .int .i64 s], .slice pa na ca] W fun e w' => ∃ p cp, e = .returned (.tuple #[.slice p (dropP S (strOfNums f3) (r, s) c).length cp, .int .i64 0]) ∧ NSS w' p (dropP S (strOfNums f3) (r, s) c).length (dropP S (strOfNums f3) (r, s) c) ∧ CP p (dropP S (strOfNums f3) (r, s) c).length cp ∧ Below W.heap.size W w') := fun W g1 g3 => Drop9_good ps ns cs S (strOfNums f3) r s pa na ca c W g1 g3 (done9_iff.2 ⟨HST.out.may, HMK.out, HMD.out, HMC.out⟩) (fun x hx => ⟨Nat.le_trans (HST.out.few x hx).1 (by omega), Nat.le_trans (HST.out.few x hx).2 (by omega)⟩) (by have := HST.out.len; have := HNL.out; omega)
              have HTE : Hid (ST9 (dropP S (strOfNums f3) (r, s) c) (16 * i + (k + 1))) := HST.out.drop HMK.out HMD.out c (by omega)
              have HSE : Hid (dropP S (strOfNums f3) (r, s) c = mid9 a2 S0 ((r, s), c, le) (k + 1)) := by unfold Hid; rw [mid9_step HXF.out, ← HSM.out, stepY_drop h2 h1]; rfl
              obtain rfl : a2 = f2 := h2.symm
              subst h1
              go_upto_region 12 with fail
              refine wp_region_held_drew (S := fun W => Below u0.heap.size u0 W) (by kernel_rfl) ((Below.refl _ u0).drew) (fun hS0 => ?_)
              refine takeInH 0 54 ?v1 rfl rfl (by kernel_rfl) (by kernel_rfl) (by kernel_rfl) (fun _ _ _ h => h) (by kernel_rfl) hS0 ?hy1 ?_
              case hy1 => (intro W hW; clear hW; go_simp; try rfl)
              simp only [Act.put, List.setIfInBounds_toArray, List.set_cons_zero, List.set_cons_succ]
              refine takeInH 1 55 ?v2 rfl rfl (by kernel_rfl) (by kernel_rfl) (by kernel_rfl) (fun _ _ _ h => h) (by kernel_rfl) hS0 ?hy2 ?_
              case hy2 => (intro W hW; clear hW; go_simp; try rfl)
              simp only [Act.put, List.setIfInBounds_toArray, List.set_cons_zero, List.set_cons_succ]
              refine takeInH 2 56 ?v3 rfl rfl (by kernel_rfl) (by kernel_rfl) (by kernel_rfl) (fun _ _ _ h => h) (by kernel_rfl) hS0 ?hy3 ?_
              case hy3 => (intro W hW; have e0 := bcell hW c0; have e1 := bcell hW c1; have e2 := bcell hW c2; have e3 := bcell hW c3; have e4 := bcell hW x0; have e5 := bcell hW x1; have e6 := bcell hW x2; clear hW; go_simp; try rfl)
              simp only [Act.put, List.setIfInBounds_toArray, List.set_cons_zero, List.set_cons_succ]
              refine takeInH 3 57 ?v4 rfl rfl (by kernel_rfl) (by kernel_rfl) (by kernel_rfl) (fun _ _ _ h => h) (by kernel_rfl) hS0 ?hy4 ?_
              case hy4 => (intro W hW; clear hW; go_simp; try rfl)
              simp only [Act.put, List.setIfInBounds_toArray, List.set_cons_zero, List.set_cons_succ]
              refine takeInH 4 58 ?v5 rfl rfl (by kernel_rfl) (by kernel_rfl) (by kernel_rfl) (fun _ _ _ h => h) (by kernel_rfl) hS0 ?hy5 ?_
              case hy5 => (intro W hW; clear hW; go_simp; try rfl)
              simp only [Act.put, List.setIfInBounds_toArray, List.set_cons_zero, List.set_cons_succ]
              refine takeInH 5 59 ?v6 rfl rfl (by kernel_rfl) (by kernel_rfl) (by kernel_rfl) (fun _ _ _ h => h) (by kernel_rfl) hS0 ?hy6 ?_
              case hy6 => (intro W hW; clear hW; go_simp; try rfl)
              simp only [Act.put, List.setIfInBounds_toArray, List.set_cons_zero, List.set_cons_succ]
              refine takeInH 6 60 ?v7 rfl rfl (by kernel_rfl) (by kernel_rfl) (by kernel_rfl) (fun _ _ _ h => h) (by kernel_rfl) hS0 ?hy7 ?_
              case hy7 => (intro W hW; clear hW; go_simp; try rfl)
              simp only [Act.put, List.setIfInBounds_toArray, List.set_cons_zero, List.set_cons_succ]
              refine takeInH 7 61 ?v8 rfl rfl (by kernel_rfl) (by kernel_rfl) (by kernel_rfl) (fun _ _ _ h => h) (by kernel_rfl) hS0 ?hy8 ?_
              case hy8 => (intro W hW; have e0 := bcell hW c0; have e1 := bcell hW c1; have e2 := bcell hW c2; have e3 := bcell hW c3; have e4 := bcell hW x0; have e5 := bcell hW x1; have e6 := bcell hW x2; clear hW; go_simp; try rfl)
              simp only [Act.put, List.setIfInBounds_toArray, List.set_cons_zero, List.set_cons_succ]
              refine takeInH 8 62 ?v9 rfl rfl (by kernel_rfl) (by kernel_rfl) (by kernel_rfl) (fun _ _ _ h => h) (by kernel_rfl) hS0 ?hy9 ?_
              case hy9 => (intro W hW; clear hW; go_simp; try rfl)
              simp only [Act.put, List.setIfInBounds_toArray, List.set_cons_zero, List.set_cons_succ]
              refine takeInH 9 63 ?v10 rfl rfl (by kernel_rfl) (by kernel_rfl) (by kernel_rfl) (fun _ _ _ h => h) (by kernel_rfl) hS0 ?hy10 ?_
              case hy10 => (intro W hW; clear hW; go_simp; try rfl)
              simp only [Act.put, List.setIfInBounds_toArray, List.set_cons_zero, List.set_cons_succ]
              refine takeInH 10 64 ?v11 rfl rfl (by kernel_rfl) (by kernel_rfl) (by kernel_rfl) (fun _ _ _ h => h) (by kernel_rfl) hS0 ?hy11 ?_
              case hy11 => (intro W hW; clear hW; go_simp; try rfl)
              simp only [Act.put, List.setIfInBounds_toArray, List.set_cons_zero, List.set_cons_succ]
              refine takeInH 11 65 ?v12 rfl rfl (by kernel_rfl) (by kernel_rfl) (by kernel_rfl) (fun _ _ _ h => h) (by kernel_rfl) hS0 ?hy12 ?_
              case hy12 => (intro W hW; clear hW; go_simp; try rfl)
              simp only [Act.put, List.setIfInBounds_toArray, List.set_cons_zero, List.set_cons_succ]
              refine takeInH 12 66 ?v13 rfl rfl (by kernel_rfl) (by kernel_rfl) (by kernel_rfl) (fun _ _ _ h => h) (by kernel_rfl) hS0 ?hy13 ?_
              case hy13 => (intro W hW; have e0 := bcell hW c0; have e1 := bcell hW c1; have e2 := bcell hW c2; have e3 := bcell hW c3; have e4 := bcell hW x0; have e5 := bcell hW x1; have e6 := bcell hW x2; clear hW; go_simp; try rfl)
              simp only [Act.put, List.setIfInBounds_toArray, List.set_cons_zero, List.set_cons_succ]
              refine wpAnyH_ready (rs := [13]) (by kernel_rfl) (by simp) ?_
              refine AllReadyH.cons rfl (fun K hK => ?_) AllReadyH.nil
              go_simp
              refine (HDD.out _ (HNS.out.below hS0) (HPA.out.below (bel_next BU.out hS0))).mono ?_
              rintro e9 wn ⟨p9, c9, rfl, hn9, hc9, hb⟩
              have HN9 := hide hn9
              have HC9 := hide hc9
              clear hn9 hc9
              refine hK.out _ _ ?hs14 (fun hS1 => ?_)
              case hs14 => exact bel_next hS0 hb
              clear hK K hb
              try simp only [Act.put, List.setIfInBounds_toArray, List.set_cons_zero, List.set_cons_succ]
              refine takeInH 14 53 ?v15 rfl rfl (by kernel_rfl) (by kernel_rfl) (by kernel_rfl) (fun _ _ _ h => h) (by kernel_rfl) hS1 ?hy15 ?_
              case hy15 => (intro W hW; clear hW; go_simp; try rfl)
              simp only [Act.put, List.setIfInBounds_toArray, List.set_cons_zero, List.set_cons_succ]
              refine takeInH 15 68 ?v16 rfl rfl (by kernel_rfl) (by kernel_rfl) (by kernel_rfl) (fun _ _ _ h => h) (by kernel_rfl) hS1 ?hy16 ?_
              case hy16 => (intro W hW; clear hW; go_simp; try rfl)
              simp only [Act.put, List.setIfInBounds_toArray, List.set_cons_zero, List.set_cons_succ]
              refine takeInH 16 69 ?v17 rfl rfl (by kernel_rfl) (by kernel_rfl) (by kernel_rfl) (fun _ _ _ h => h) (by kernel_rfl) hS1 ?hy17 ?_
              case hy17 => (intro W hW; clear hW; go_simp; try rfl)
              simp only [Act.put, List.setIfInBounds_toArray, List.set_cons_zero, List.set_cons_succ]
              refine takeInH 17 13 ?v18 rfl rfl (by kernel_rfl) (by kernel_rfl) (by kernel_rfl) (fun _ _ _ h => h) (by kernel_rfl) hS1 ?hy18 ?_
              case hy18 => (intro W hW; clear hW; go_simp; try rfl)
              simp only [Act.put, List.setIfInBounds_toArray, List.set_cons_zero, List.set_cons_succ]
              refine takeInH 18 12 ?v19 rfl rfl (by kernel_rfl) (by kernel_rfl) (by kernel_rfl) (fun _ _ _ h => h) (by kernel_rfl) hS1 ?hy19 ?_
              case hy19 => (intro W hW; clear hW; go_simp; try rfl)
              simp only [Act.put, List.setIfInBounds_toArray, List.set_cons_zero, List.set_cons_succ]
              refine wpAnyH_done (by kernel_rfl) ?_ _
              replace BU := hide (bel_next BU.out hS1)
              replace BX1 := hide (bel_next BX1.out hS1)
              clear c0 c1 c2 c3 x0 x1 x2
              have HNZ := HN9
              clear HN9
              have c0 := bcell BU.out C0.out
              have c1 := bcell BU.out C1.out
              have c2 := bcell BU.out C2.out
              have c3 := bcell BU.out C3.out
              have x0 := bcell BX1.out X0.out
              have x1 := bcell BX1.out X1.out
              have x2 := bcell BX1.out X2.out
              go_upto_region 13 with fail
              refine wp_region_held_drew (S := fun W => Below wn.heap.size wn W) (by kernel_rfl) ((Below.refl _ wn).drew) (fun hS0 => ?_)
              refine takeInH 0 70 ?v20 rfl rfl (by kernel_rfl) (by kernel_rfl) (by kernel_rfl) (fun _ _ _ h => h) (by kernel_rfl) hS0 ?hy20 ?_
              case hy20 => (intro W hW; clear hW; go_simp; try rfl)
              simp only [Act.put, List.setIfInBounds_toArray, List.set_cons_zero, List.set_cons_succ]
              refine takeInH 1 71 ?v21 rfl rfl (by kernel_rfl) (by kernel_rfl) (by kernel_rfl) (fun _ _ _ h => h) (by kernel_rfl) hS0 ?hy21 ?_
              case hy21 => (intro W hW; have e0 := bcell hW c0; have e1 := bcell hW c1; have e2 := bcell hW c2; have e3 := bcell hW c3; have e4 := bcell hW x0; have e5 := bcell hW x1; have e6 := bcell hW x2; clear hW; go_simp; try rfl)
              simp only [Act.put, List.setIfInBounds_toArray, List.set_cons_zero, List.set_cons_succ]
              refine takeInH 2 72 ?v22 rfl rfl (by kernel_rfl) (by kernel_rfl) (by kernel_rfl) (fun _ _ _ h => h) (by kernel_rfl) hS0 ?hy22 ?_
              case hy22 => (intro W hW; clear hW; go_simp; try rfl)
              simp only [Act.put, List.setIfInBounds_toArray, List.set_cons_zero, List.set_cons_succ]
              refine takeInH 3 73 ?v23 rfl rfl (by kernel_rfl) (by kernel_rfl) (by kernel_rfl) (fun _ _ _ h => h) (by kernel_rfl) hS0 ?hy23 ?_
              case hy23 => (intro W hW; clear hW; go_simp; try rfl)
              simp only [Act.put, List.setIfInBounds_toArray, List.set_cons_zero, List.set_cons_succ]
              refine takeInH 4 74 ?v24 rfl rfl (by kernel_rfl) (by kernel_rfl) (by kernel_rfl) (fun _ _ _ h => h) (by kernel_rfl) hS0 ?hy24 ?_
              case hy24 => (intro W hW; clear hW; go_simp; try rfl)
              simp only [Act.put, List.setIfInBounds_toArray, List.set_cons_zero, List.set_cons_succ]
              refine takeInH 5 75 ?v25 rfl rfl (by kernel_rfl) (by kernel_rfl) (by kernel_rfl) (fun _ _ _ h => h) (by kernel_rfl) hS0 ?hy25 ?_
              case hy25 => (intro W hW; clear hW; go_simp; try rfl)
              simp only [Act.put, List.setIfInBounds_toArray, List.set_cons_zero, List.set_cons_succ]
              refine takeInH 6 76 ?v26 rfl rfl (by kernel_rfl) (by kernel_rfl) (by kernel_rfl) (fun _ _ _ h => h) (by kernel_rfl) hS0 ?hy26 ?_
              case hy26 => (intro W hW; have e0 := bcell hW c0; have e1 := bcell hW c1; have e2 := bcell hW c2; have e3 := bcell hW c3; have e4 := bcell hW x0; have e5 := bcell hW x1; have e6 := bcell hW x2; clear hW; go_simp; try rfl)
              simp only [Act.put, List.setIfInBounds_toArray, List.set_cons_zero, List.set_cons_succ]
              refine takeInH 7 77 ?v27 rfl rfl (by kernel_rfl) (by kernel_rfl) (by kernel_rfl) (fun _ _ _ h => h) (by kernel_rfl) hS0 ?hy27 ?_
              case hy27 => (intro W hW; clear hW; go_simp; try rfl)
              simp only [Act.put, List.setIfInBounds_toArray, List.set_cons_zero, List.set_cons_succ]
              refine takeInH 8 78 ?v28 rfl rfl (by kernel_rfl) (by kernel_rfl) (by kernel_rfl) (fun _ _ _ h => h) (by kernel_rfl) hS0 ?hy28 ?_
              case hy28 => (intro W hW; clear hW; go_simp; try rfl)
              simp only [Act.put, List.setIfInBounds_toArray, List.set_cons_zero, List.set_cons_succ]
              refine takeInH 9 79 ?v29 rfl rfl (by kernel_rfl) (by kernel_rfl) (by kernel_rfl) (fun _ _ _ h => h) (by kernel_rfl) hS0 ?hy29 ?_
              case hy29 => (intro W hW; clear hW; go_simp; try rfl)
              simp only [Act.put, List.setIfInBounds_toArray, List.set_cons_zero, List.set_cons_succ]
              refine takeNoH 10 80 rfl rfl (by kernel_rfl) (by kernel_rfl) (by kernel_rfl) (fun _ _ _ h => h) (by kernel_rfl) hS0 ?_
              simp only [Act.put, List.setIfInBounds_toArray, List.set_cons_zero, List.set_cons_succ]
              refine takeNoH 11 81 rfl rfl (by kernel_rfl) (by kernel_rfl) (by kernel_rfl) (fun _ _ _ h => h) (by kernel_rfl) hS0 ?_
              simp only [Act.put, List.setIfInBounds_toArray, List.set_cons_zero, List.set_cons_succ]
              refine takeNoH 12 82 rfl rfl (by kernel_rfl) (by kernel_rfl) (by kernel_rfl) (fun _ _ _ h => h) (by kernel_rfl) hS0 ?_
              simp only [Act.put, List.setIfInBounds_toArray, List.set_cons_zero, List.set_cons_succ]
              refine takeNoH 13 83 rfl rfl (by kernel_rfl) (by kernel_rfl) (by kernel_rfl) (fun _ _ _ h => h) (by kernel_rfl) hS0 ?_
              simp only [Act.put, List.setIfInBounds_toArray, List.set_cons_zero, List.set_cons_succ]
              refine takeNoH 14 84 rfl rfl (by kernel_rfl) (by kernel_rfl) (by kernel_rfl) (fun _ _ _ h => h) (by kernel_rfl) hS0 ?_
              simp only [Act.put, List.setIfInBounds_toArray, List.set_cons_zero, List.set_cons_succ]
              refine takeNoH 15 85 rfl rfl (by kernel_rfl) (by kernel_rfl) (by kernel_rfl) (fun _ _ _ h => h) (by kernel_rfl) hS0 ?_
              simp only [Act.put, List.setIfInBounds_toArray, List.set_cons_zero, List.set_cons_succ]
              refine takeNoH 16 86 rfl rfl (by kernel_rfl) (by kernel_rfl) (by kernel_rfl) (fun _ _ _ h => h) (by kernel_rfl) hS0 ?_
              simp only [Act.put, List.setIfInBounds_toArray, List.set_cons_zero, List.set_cons_succ]
              refine takeNoH 17 87 rfl rfl (by kernel_rfl) (by kernel_rfl) (by kernel_rfl) (fun _ _ _ h => h) (by kernel_rfl) hS0 ?_
              simp only [Act.put, List.setIfInBounds_toArray, List.set_cons_zero, List.set_cons_succ]
              refine takeNoH 18 88 rfl rfl (by kernel_rfl) (by kernel_rfl) (by kernel_rfl) (fun _ _ _ h => h) (by kernel_rfl) hS0 ?_
              simp only [Act.put, List.setIfInBounds_toArray, List.set_cons_zero, List.set_cons_succ]
              refine takeInH 19 89 ?v30 rfl rfl (by kernel_rfl) (by kernel_rfl) (by kernel_rfl) (fun _ _ _ h => h) (by kernel_rfl) hS0 ?hy30 ?_
              case hy30 => (intro W hW; clear hW; go_simp; try rfl)
              simp only [Act.put, List.setIfInBounds_toArray, List.set_cons_zero, List.set_cons_succ]
              refine wpAnyH_done (by kernel_rfl) ?_ _
              replace BU := hide (bel_next BU.out hS0)
              replace BX1 := hide (bel_next BX1.out hS0)
              clear c0 c1 c2 c3 x0 x1 x2
              replace HNZ := hide (HNZ.out.below hS0)
              generalize wn.drew = wm at *
              have HNE := HNZ
              have HCE := HC9
              go_wp2
              go_roundw
              case rel => exact ⟨k + 1, _, _, _, by omega, by go_num, rfl, HNE, HCE, HSE, HTE, (show Hid _ from bel_next HB2.out (bel_next HBW.out BX1.out))⟩
              case measure => simp [intOf]; omega
            · by_cases h3 : f1 = 1
              · rcases hdb : doesB ((r, s), c, le) 2 a2 (strOfNums f3) with _ | _
                · have HDB := hide hdb
                  clear hdb h1
                  have HAD : Hid (∀ W, NSS W ps ns S → NS W pa na c → Calls Try.prog 9 #[.slice ps ns cs, .string (strOfNums f3), .agg #[.int .i64 r, .int .i64 s], .slice pa na ca] W fun e w' => ∃ p cp, e = .returned (.tuple #[.slice p (addP S (strOfNums f3) (r, s) c).length cp, .int .i64 0]) ∧ NSS w' p (addP S (strOfNums f3) (r, s) c).length (addP S (strOfNums f3) (r, s) c) ∧ CP p (addP S (strOfNums f3) (r, s) c).length cp ∧ Below W.heap.size W w') := fun W g1 g3 => Add9_good ps ns cs S (strOfNums f3) r s pa na ca c W g1 g3 (done9_iff.2 ⟨HST.out.may, HMK.out, HMD.out, HMC.out⟩) (fun x hx => ⟨Nat.le_trans (HST.out.few x hx).1 (by omega), Nat.le_trans (HST.out.few x hx).2 (by omega)⟩) (by have := HST.out.len; have := HNL.out; omega)
                  have HTE : Hid (ST9 (addP S (strOfNums f3) (r, s) c) (16 * i + (k + 1))) := HST.out.add HMK.out HMD.out c (by omega)
                  have HSE : Hid (addP S (strOfNums f3) (r, s) c = mid9 a2 S0 ((r, s), c, le) (k + 1)) := by unfold Hid; rw [mid9_step HXF.out, ← HSM.out, stepY_add h2 h3 HDB.out]; rfl
                  obtain rfl : a2 = f2 := h2.symm
                  subst h3
                  go_upto_region 13 with fail
                  refine wp_region_held_drew (S := fun W => Below u0.heap.size u0 W) (by kernel_rfl) ((Below.refl _ u0).drew) (fun hS0 => ?_)
                  refine takeInH 0 70 ?v31 rfl rfl (by kernel_rfl) (by kernel_rfl) (by kernel_rfl) (fun _ _ _ h => h) (by kernel_rfl) hS0 ?hy31 ?_
                  case hy31 => (intro W hW; clear hW; go_simp; try rfl)
                  simp only [Act.put, List.setIfInBounds_toArray, List.set_cons_zero, List.set_cons_succ]
                  refine takeInH 1 71 ?v32 rfl rfl (by kernel_rfl) (by kernel_rfl) (by kernel_rfl) (fun _ _ _ h => h) (by kernel_rfl) hS0 ?hy32 ?_
                  case hy32 => (intro W hW; have e0 := bcell hW c0; have e1 := bcell hW c1; have e2 := bcell hW c2; have e3 := bcell hW c3; have e4 := bcell hW x0; have e5 := bcell hW x1; have e6 := bcell hW x2; clear hW; go_simp; try rfl)
                  simp only [Act.put, List.setIfInBounds_toArray, List.set_cons_zero, List.set_cons_succ]
                  refine takeInH 2 72 ?v33 rfl rfl (by kernel_rfl) (by kernel_rfl) (by kernel_rfl) (fun _ _ _ h => h) (by kernel_rfl) hS0 ?hy33 ?_
                  case hy33 => (intro W hW; clear hW; go_simp; try rfl)
                  simp only [Act.put, List.setIfInBounds_toArray, List.set_cons_zero, List.set_cons_succ]
                  refine takeInH 3 73 ?v34 rfl rfl (by kernel_rfl) (by kernel_rfl) (by kernel_rfl) (fun _ _ _ h => h) (by kernel_rfl) hS0 ?hy34 ?_
                  case hy34 => (intro W hW; clear hW; go_simp; try rfl)
                  simp only [Act.put, List.setIfInBounds_toArray, List.set_cons_zero, List.set_cons_succ]
                  refine takeInH 4 74 ?v35 rfl rfl (by kernel_rfl) (by kernel_rfl) (by kernel_rfl) (fun _ _ _ h => h) (by kernel_rfl) hS0 ?hy35 ?_
                  case hy35 => (intro W hW; clear hW; go_simp; try rfl)
                  simp only [Act.put, List.setIfInBounds_toArray, List.set_cons_zero, List.set_cons_succ]
                  refine takeInH 5 75 ?v36 rfl rfl (by kernel_rfl) (by kernel_rfl) (by kernel_rfl) (fun _ _ _ h => h) (by kernel_rfl) hS0 ?hy36 ?_
                  case hy36 => (intro W hW; clear hW; go_simp; try rfl)
                  simp only [Act.put, List.setIfInBounds_toArray, List.set_cons_zero, List.set_cons_succ]
                  refine takeInH 6 76 ?v37 rfl rfl (by kernel_rfl) (by kernel_rfl) (by kernel_rfl) (fun _ _ _ h => h) (by kernel_rfl) hS0 ?hy37 ?_
                  case hy37 => (intro W hW; have e0 := bcell hW c0; have e1 := bcell hW c1; have e2 := bcell hW c2; have e3 := bcell hW c3; have e4 := bcell hW x0; have e5 := bcell hW x1; have e6 := bcell hW x2; clear hW; go_simp; try rfl)
                  simp only [Act.put, List.setIfInBounds_toArray, List.set_cons_zero, List.set_cons_succ]
                  refine takeInH 7 77 ?v38 rfl rfl (by kernel_rfl) (by kernel_rfl) (by kernel_rfl) (fun _ _ _ h => h) (by kernel_rfl) hS0 ?hy38 ?_
                  case hy38 => (intro W hW; clear hW; go_simp; try rfl)
                  simp only [Act.put, List.setIfInBounds_toArray, List.set_cons_zero, List.set_cons_succ]
                  refine takeInH 8 78 ?v39 rfl rfl (by kernel_rfl) (by kernel_rfl) (by kernel_rfl) (fun _ _ _ h => h) (by kernel_rfl) hS0 ?hy39 ?_
                  case hy39 => (intro W hW; clear hW; go_simp; try rfl)
                  simp only [Act.put, List.setIfInBounds_toArray, List.set_cons_zero, List.set_cons_succ]
                  refine takeInH 9 79 ?v40 rfl rfl (by kernel_rfl) (by kernel_rfl) (by kernel_rfl) (fun _ _ _ h => h) (by kernel_rfl) hS0 ?hy40 ?_
                  case hy40 => (intro W hW; clear hW; go_simp; try rfl)
                  simp only [Act.put, List.setIfInBounds_toArray, List.set_cons_zero, List.set_cons_succ]
                  refine takeInH 10 80 ?v41 rfl rfl (by kernel_rfl) (by kernel_rfl) (by kernel_rfl) (fun _ _ _ h => h) (by kernel_rfl) hS0 ?hy41 ?_
                  case hy41 => (intro W hW; clear hW; go_simp; try rfl)
                  simp only [Act.put, List.setIfInBounds_toArray, List.set_cons_zero, List.set_cons_succ]
                  refine takeInH 11 81 ?v42 rfl rfl (by kernel_rfl) (by kernel_rfl) (by kernel_rfl) (fun _ _ _ h => h) (by kernel_rfl) hS0 ?hy42 ?_
                  case hy42 => (intro W hW; clear hW; go_simp; try rfl)
                  simp only [Act.put, List.setIfInBounds_toArray, List.set_cons_zero, List.set_cons_succ]
                  refine takeInH 12 82 ?v43 rfl rfl (by kernel_rfl) (by kernel_rfl) (by kernel_rfl) (fun _ _ _ h => h) (by kernel_rfl) hS0 ?hy43 ?_
                  case hy43 => (intro W hW; clear hW; go_simp; try rfl)
                  simp only [Act.put, List.setIfInBounds_toArray, List.set_cons_zero, List.set_cons_succ]
                  refine takeInH 13 83 ?v44 rfl rfl (by kernel_rfl) (by kernel_rfl) (by kernel_rfl) (fun _ _ _ h => h) (by kernel_rfl) hS0 ?hy44 ?_
                  case hy44 => (intro W hW; have e0 := bcell hW c0; have e1 := bcell hW c1; have e2 := bcell hW c2; have e3 := bcell hW c3; have e4 := bcell hW x0; have e5 := bcell hW x1; have e6 := bcell hW x2; clear hW; go_simp; try rfl)
                  simp only [Act.put, List.setIfInBounds_toArray, List.set_cons_zero, List.set_cons_succ]
                  refine takeInH 14 84 ?v45 rfl rfl (by kernel_rfl) (by kernel_rfl) (by kernel_rfl) (fun _ _ _ h => h) (by kernel_rfl) hS0 ?hy45 ?_
                  case hy45 => (intro W hW; clear hW; go_simp; try rfl)
                  simp only [Act.put, List.setIfInBounds_toArray, List.set_cons_zero, List.set_cons_succ]
                  refine takeInH 15 85 ?v46 rfl rfl (by kernel_rfl) (by kernel_rfl) (by kernel_rfl) (fun _ _ _ h => h) (by kernel_rfl) hS0 ?hy46 ?_
                  case hy46 => (intro W hW; clear hW; go_simp; try rfl)
                  simp only [Act.put, List.setIfInBounds_toArray, List.set_cons_zero, List.set_cons_succ]
                  refine takeInH 16 86 ?v47 rfl rfl (by kernel_rfl) (by kernel_rfl) (by kernel_rfl) (fun _ _ _ h => h) (by kernel_rfl) hS0 ?hy47 ?_
                  case hy47 => (intro W hW; have e0 := bcell hW c0; have e1 := bcell hW c1; have e2 := bcell hW c2; have e3 := bcell hW c3; have e4 := bcell hW x0; have e5 := bcell hW x1; have e6 := bcell hW x2; clear hW; go_simp; try rfl)
                  simp only [Act.put, List.setIfInBounds_toArray, List.set_cons_zero, List.set_cons_succ]
                  refine wpAnyH_ready (rs := [17]) (by kernel_rfl) (by simp) ?_
                  refine AllReadyH.cons rfl (fun K hK => ?_) AllReadyH.nil
                  go_simp
                  refine (Does_any r s pa na ca (some ⟨be, offe, none⟩) ne ce c le 2 a2 (strOfNums f3) _ (HEF.out.below (bel_next BU.out hS0))).mono ?_
                  rintro e9 wn ⟨rfl, hb⟩
                  rw [show doesB ((r, s), c, le) 2 a2 (strOfNums f3) = false from HDB.out]
                  refine hK.out _ _ ?hs48 (fun hS1 => ?_)
                  case hs48 => exact bel_next hS0 hb
                  clear hK K hb
                  try simp only [Act.put, List.setIfInBounds_toArray, List.set_cons_zero, List.set_cons_succ]
                  refine takeInH 18 88 ?v49 rfl rfl (by kernel_rfl) (by kernel_rfl) (by kernel_rfl) (fun _ _ _ h => h) (by kernel_rfl) hS1 ?hy49 ?_
                  case hy49 => (intro W hW; clear hW; go_simp; try rfl)
                  simp only [Act.put, List.setIfInBounds_toArray, List.set_cons_zero, List.set_cons_succ]
                  refine takeInH 19 89 ?v50 rfl rfl (by kernel_rfl) (by kernel_rfl) (by kernel_rfl) (fun _ _ _ h => h) (by kernel_rfl) hS1 ?hy50 ?_
                  case hy50 => (intro W hW; clear hW; go_simp; try rfl)
                  simp only [Act.put, List.setIfInBounds_toArray, List.set_cons_zero, List.set_cons_succ]
                  refine wpAnyH_done (by kernel_rfl) ?_ _
                  replace BU := hide (bel_next BU.out hS1)
                  replace BX1 := hide (bel_next BX1.out hS1)
                  clear c0 c1 c2 c3 x0 x1 x2
                  replace HNS := hide (HNS.out.below hS1)
                  have c0 := bcell BU.out C0.out
                  have c1 := bcell BU.out C1.out
                  have c2 := bcell BU.out C2.out
                  have c3 := bcell BU.out C3.out
                  have x0 := bcell BX1.out X0.out
                  have x1 := bcell BX1.out X1.out
                  have x2 := bcell BX1.out X2.out
                  go_upto_region 14 with fail
                  refine wp_region_held_drew (S := fun W => Below wn.heap.size wn W) (by kernel_rfl) ((Below.refl _ wn).drew) (fun hS0 => ?_)
                  refine takeInH 0 91 ?v51 rfl rfl (by kernel_rfl) (by kernel_rfl) (by kernel_rfl) (fun _ _ _ h => h) (by kernel_rfl) hS0 ?hy51 ?_
                  case hy51 => (intro W hW; clear hW; go_simp; try rfl)
                  simp only [Act.put, List.setIfInBounds_toArray, List.set_cons_zero, List.set_cons_succ]
                  refine takeInH 1 92 ?v52 rfl rfl (by kernel_rfl) (by kernel_rfl) (by kernel_rfl) (fun _ _ _ h => h) (by kernel_rfl) hS0 ?hy52 ?_
                  case hy52 => (intro W hW; clear hW; go_simp; try rfl)
                  simp only [Act.put, List.setIfInBounds_toArray, List.set_cons_zero, List.set_cons_succ]
                  refine takeInH 2 93 ?v53 rfl rfl (by kernel_rfl) (by kernel_rfl) (by kernel_rfl) (fun _ _ _ h => h) (by kernel_rfl) hS0 ?hy53 ?_
                  case hy53 => (intro W hW; have e0 := bcell hW c0; have e1 := bcell hW c1; have e2 := bcell hW c2; have e3 := bcell hW c3; have e4 := bcell hW x0; have e5 := bcell hW x1; have e6 := bcell hW x2; clear hW; go_simp; try rfl)
                  simp only [Act.put, List.setIfInBounds_toArray, List.set_cons_zero, List.set_cons_succ]
                  refine takeInH 3 94 ?v54 rfl rfl (by kernel_rfl) (by kernel_rfl) (by kernel_rfl) (fun _ _ _ h => h) (by kernel_rfl) hS0 ?hy54 ?_
                  case hy54 => (intro W hW; clear hW; go_simp; try rfl)
                  simp only [Act.put, List.setIfInBounds_toArray, List.set_cons_zero, List.set_cons_succ]
                  refine takeInH 4 95 ?v55 rfl rfl (by kernel_rfl) (by kernel_rfl) (by kernel_rfl) (fun _ _ _ h => h) (by kernel_rfl) hS0 ?hy55 ?_
                  case hy55 => (intro W hW; clear hW; go_simp; try rfl)
                  simp only [Act.put, List.setIfInBounds_toArray, List.set_cons_zero, List.set_cons_succ]
                  refine takeInH 5 96 ?v56 rfl rfl (by kernel_rfl) (by kernel_rfl) (by kernel_rfl) (fun _ _ _ h => h) (by kernel_rfl) hS0 ?hy56 ?_
                  case hy56 => (intro W hW; clear hW; go_simp; try rfl)
                  simp only [Act.put, List.setIfInBounds_toArray, List.set_cons_zero, List.set_cons_succ]
                  refine takeInH 6 97 ?v57 rfl rfl (by kernel_rfl) (by kernel_rfl) (by kernel_rfl) (fun _ _ _ h => h) (by kernel_rfl) hS0 ?hy57 ?_
                  case hy57 => (intro W hW; clear hW; go_simp; try rfl)
                  simp only [Act.put, List.setIfInBounds_toArray, List.set_cons_zero, List.set_cons_succ]
                  refine takeInH 7 98 ?v58 rfl rfl (by kernel_rfl) (by kernel_rfl) (by kernel_rfl) (fun _ _ _ h => h) (by kernel_rfl) hS0 ?hy58 ?_
                  case hy58 => (intro W hW; have e0 := bcell hW c0; have e1 := bcell hW c1; have e2 := bcell hW c2; have e3 := bcell hW c3; have e4 := bcell hW x0; have e5 := bcell hW x1; have e6 := bcell hW x2; clear hW; go_simp; try rfl)
                  simp only [Act.put, List.setIfInBounds_toArray, List.set_cons_zero, List.set_cons_succ]
                  refine takeInH 8 99 ?v59 rfl rfl (by kernel_rfl) (by kernel_rfl) (by kernel_rfl) (fun _ _ _ h => h) (by kernel_rfl) hS0 ?hy59 ?_
                  case hy59 => (intro W hW; clear hW; go_simp; try rfl)
                  simp only [Act.put, List.setIfInBounds_toArray, List.set_cons_zero, List.set_cons_succ]
                  refine takeInH 9 100 ?v60 rfl rfl (by kernel_rfl) (by kernel_rfl) (by kernel_rfl) (fun _ _ _ h => h) (by kernel_rfl) hS0 ?hy60 ?_
                  case hy60 => (intro W hW; clear hW; go_simp; try rfl)
                  simp only [Act.put, List.setIfInBounds_toArray, List.set_cons_zero, List.set_cons_succ]
                  refine takeInH 10 101 ?v61 rfl rfl (by kernel_rfl) (by kernel_rfl) (by kernel_rfl) (fun _ _ _ h => h) (by kernel_rfl) hS0 ?hy61 ?_
                  case hy61 => (intro W hW; clear hW; go_simp; try rfl)
                  simp only [Act.put, List.setIfInBounds_toArray, List.set_cons_zero, List.set_cons_succ]
                  refine takeInH 11 102 ?v62 rfl rfl (by kernel_rfl) (by kernel_rfl) (by kernel_rfl) (fun _ _ _ h => h) (by kernel_rfl) hS0 ?hy62 ?_
                  case hy62 => (intro W hW; clear hW; go_simp; try rfl)
                  simp only [Act.put, List.setIfInBounds_toArray, List.set_cons_zero, List.set_cons_succ]
                  refine takeInH 12 103 ?v63 rfl rfl (by kernel_rfl) (by kernel_rfl) (by kernel_rfl) (fun _ _ _ h => h) (by kernel_rfl) hS0 ?hy63 ?_
                  case hy63 => (intro W hW; have e0 := bcell hW c0; have e1 := bcell hW c1; have e2 := bcell hW c2; have e3 := bcell hW c3; have e4 := bcell hW x0; have e5 := bcell hW x1; have e6 := bcell hW x2; clear hW; go_simp; try rfl)
                  simp only [Act.put, List.setIfInBounds_toArray, List.set_cons_zero, List.set_cons_succ]
                  refine wpAnyH_ready (rs := [13]) (by kernel_rfl) (by simp) ?_
                  refine AllReadyH.cons rfl (fun K hK => ?_) AllReadyH.nil
                  go_simp
                  refine (HAD.out _ (HNS.out.below hS0) (HPA.out.below (bel_next BU.out hS0))).mono ?_
                  rintro e9 wn ⟨p9, c9, rfl, hn9, hc9, hb⟩
                  have HN9 := hide hn9
                  have HC9 := hide hc9
                  clear hn9 hc9
                  refine hK.out _ _ ?hs64 (fun hS1 => ?_)
                  case hs64 => exact bel_next hS0 hb
                  clear hK K hb
                  try simp only [Act.put, List.setIfInBounds_toArray, List.set_cons_zero, List.set_cons_succ]
                  refine takeInH 14 90 ?v65 rfl rfl (by kernel_rfl) (by kernel_rfl) (by kernel_rfl) (fun _ _ _ h => h) (by kernel_rfl) hS1 ?hy65 ?_
                  case hy65 => (intro W hW; clear hW; go_simp; try rfl)
                  simp only [Act.put, List.setIfInBounds_toArray, List.set_cons_zero, List.set_cons_succ]
                  refine takeInH 15 105 ?v66 rfl rfl (by kernel_rfl) (by kernel_rfl) (by kernel_rfl) (fun _ _ _ h => h) (by kernel_rfl) hS1 ?hy66 ?_
                  case hy66 => (intro W hW; clear hW; go_simp; try rfl)
                  simp only [Act.put, List.setIfInBounds_toArray, List.set_cons_zero, List.set_cons_succ]
                  refine takeInH 16 106 ?v67 rfl rfl (by kernel_rfl) (by kernel_rfl) (by kernel_rfl) (fun _ _ _ h => h) (by kernel_rfl) hS1 ?hy67 ?_
                  case hy67 => (intro W hW; clear hW; go_simp; try rfl)
                  simp only [Act.put, List.setIfInBounds_toArray, List.set_cons_zero, List.set_cons_succ]
                  refine takeInH 17 13 ?v68 rfl rfl (by kernel_rfl) (by kernel_rfl) (by kernel_rfl) (fun _ _ _ h => h) (by kernel_rfl) hS1 ?hy68 ?_
                  case hy68 => (intro W hW; clear hW; go_simp; try rfl)
                  simp only [Act.put, List.setIfInBounds_toArray, List.set_cons_zero, List.set_cons_succ]
                  refine takeInH 18 12 ?v69 rfl rfl (by kernel_rfl) (by kernel_rfl) (by kernel_rfl) (fun _ _ _ h => h) (by kernel_rfl) hS1 ?hy69 ?_
                  case hy69 => (intro W hW; clear hW; go_simp; try rfl)
                  simp only [Act.put, List.setIfInBounds_toArray, List.set_cons_zero, List.set_cons_succ]
                  refine wpAnyH_done (by kernel_rfl) ?_ _
                  replace BU := hide (bel_next BU.out hS1)
                  replace BX1 := hide (bel_next BX1.out hS1)
                  clear c0 c1 c2 c3 x0 x1 x2
                  have HNE := HN9
                  have HCE := HC9
                  go_wp2
                  go_roundw
                  case rel => exact ⟨k + 1, _, _, _, by omega, by go_num, rfl, HNE, HCE, HSE, HTE, (show Hid _ from bel_next HB2.out (bel_next HBW.out BX1.out))⟩
                  case measure => simp [intOf]; omega
                · have HDB := hide hdb
                  clear hdb
                  have HTE : Hid (ST9 S (16 * i + (k + 1))) := HST.out.up
                  have HSE : Hid (S = mid9 a2 S0 ((r, s), c, le) (k + 1)) := by unfold Hid; rw [mid9_step HXF.out, ← HSM.out, stepY_no (.inr ⟨h1, .inr HDB.out⟩)]
                  clear h1
                  obtain rfl : a2 = f2 := h2.symm
                  subst h3
                  go_upto_region 13 with fail
                  refine wp_region_held_drew (S := fun W => Below u0.heap.size u0 W) (by kernel_rfl) ((Below.refl _ u0).drew) (fun hS0 => ?_)
                  refine takeInH 0 70 ?v70 rfl rfl (by kernel_rfl) (by kernel_rfl) (by kernel_rfl) (fun _ _ _ h => h) (by kernel_rfl) hS0 ?hy70 ?_
                  case hy70 => (intro W hW; clear hW; go_simp; try rfl)
                  simp only [Act.put, List.setIfInBounds_toArray, List.set_cons_zero, List.set_cons_succ]
                  refine takeInH 1 71 ?v71 rfl rfl (by kernel_rfl) (by kernel_rfl) (by kernel_rfl) (fun _ _ _ h => h) (by kernel_rfl) hS0 ?hy71 ?_
                  case hy71 => (intro W hW; have e0 := bcell hW c0; have e1 := bcell hW c1; have e2 := bcell hW c2; have e3 := bcell hW c3; have e4 := bcell hW x0; have e5 := bcell hW x1; have e6 := bcell hW x2; clear hW; go_simp; try rfl)
                  simp only [Act.put, List.setIfInBounds_toArray, List.set_cons_zero, List.set_cons_succ]
                  refine takeInH 2 72 ?v72 rfl rfl (by kernel_rfl) (by kernel_rfl) (by kernel_rfl) (fun _ _ _ h => h) (by kernel_rfl) hS0 ?hy72 ?_
                  case hy72 => (intro W hW; clear hW; go_simp; try rfl)
                  simp only [Act.put, List.setIfInBounds_toArray, List.set_cons_zero, List.set_cons_succ]
                  refine takeInH 3 73 ?v73 rfl rfl (by kernel_rfl) (by kernel_rfl) (by kernel_rfl) (fun _ _ _ h => h) (by kernel_rfl) hS0 ?hy73 ?_
                  case hy73 => (intro W hW; clear hW; go_simp; try rfl)
                  simp only [Act.put, List.setIfInBounds_toArray, List.set_cons_zero, List.set_cons_succ]
                  refine takeInH 4 74 ?v74 rfl rfl (by kernel_rfl) (by kernel_rfl) (by kernel_rfl) (fun _ _ _ h => h) (by kernel_rfl) hS0 ?hy74 ?_
                  case hy74 => (intro W hW; clear hW; go_simp; try rfl)
                  simp only [Act.put, List.setIfInBounds_toArray, List.set_cons_zero, List.set_cons_succ]
                  refine takeInH 5 75 ?v75 rfl rfl (by kernel_rfl) (by kernel_rfl) (by kernel_rfl) (fun _ _ _ h => h) (by kernel_rfl) hS0 ?hy75 ?_
                  case hy75 => (intro W hW; clear hW; go_simp; try rfl)
                  simp only [Act.put, List.setIfInBounds_toArray, List.set_cons_zero, List.set_cons_succ]
                  refine takeInH 6 76 ?v76 rfl rfl (by kernel_rfl) (by kernel_rfl) (by kernel_rfl) (fun _ _ _ h => h) (by kernel_rfl) hS0 ?hy76 ?_
                  case hy76 => (intro W hW; have e0 := bcell hW c0; have e1 := bcell hW c1; have e2 := bcell hW c2; have e3 := bcell hW c3; have e4 := bcell hW x0; have e5 := bcell hW x1; have e6 := bcell hW x2; clear hW; go_simp; try rfl)
                  simp only [Act.put, List.setIfInBounds_toArray, List.set_cons_zero, List.set_cons_succ]
                  refine takeInH 7 77 ?v77 rfl rfl (by kernel_rfl) (by kernel_rfl) (by kernel_rfl) (fun _ _ _ h => h) (by kernel_rfl) hS0 ?hy77 ?_
                  case hy77 => (intro W hW; clear hW; go_simp; try rfl)
                  simp only [Act.put, List.setIfInBounds_toArray, List.set_cons_zero, List.set_cons_succ]
                  refine takeInH 8 78 ?v78 rfl rfl (by kernel_rfl) (by kernel_rfl) (by kernel_rfl) (fun _ _ _ h => h) (by kernel_rfl) hS0 ?hy78 ?_
                  case hy78 => (intro W hW; clear hW; go_simp; try rfl)
                  simp only [Act.put, List.setIfInBounds_toArray, List.set_cons_zero, List.set_cons_succ]
                  refine takeInH 9 79 ?v79 rfl rfl (by kernel_rfl) (by kernel_rfl) (by kernel_rfl) (fun _ _ _ h => h) (by kernel_rfl) hS0 ?hy79 ?_
                  case hy79 => (intro W hW; clear hW; go_simp; try rfl)
                  simp only [Act.put, List.setIfInBounds_toArray, List.set_cons_zero, List.set_cons_succ]
                  refine takeInH 10 80 ?v80 rfl rfl (by kernel_rfl) (by kernel_rfl) (by kernel_rfl) (fun _ _ _ h => h) (by kernel_rfl) hS0 ?hy80 ?_
                  case hy80 => (intro W hW; clear hW; go_simp; try rfl)
                  simp only [Act.put, List.setIfInBounds_toArray, List.set_cons_zero, List.set_cons_succ]
                  refine takeInH 11 81 ?v81 rfl rfl (by kernel_rfl) (by kernel_rfl) (by kernel_rfl) (fun _ _ _ h => h) (by kernel_rfl) hS0 ?hy81 ?_
                  case hy81 => (intro W hW; clear hW; go_simp; try rfl)
                  simp only [Act.put, List.setIfInBounds_toArray, List.set_cons_zero, List.set_cons_succ]
                  refine takeInH 12 82 ?v82 rfl rfl (by kernel_rfl) (by kernel_rfl) (by kernel_rfl) (fun _ _ _ h => h) (by kernel_rfl) hS0 ?hy82 ?_
                  case hy82 => (intro W hW; clear hW; go_simp; try rfl)
                  simp only [Act.put, List.setIfInBounds_toArray, List.set_cons_zero, List.set_cons_succ]
                  refine takeInH 13 83 ?v83 rfl rfl (by kernel_rfl) (by kernel_rfl) (by kernel_rfl) (fun _ _ _ h => h) (by kernel_rfl) hS0 ?hy83 ?_
                  case hy83 => (intro W hW; have e0 := bcell hW c0; have e1 := bcell hW c1; have e2 := bcell hW c2; have e3 := bcell hW c3; have e4 := bcell hW x0; have e5 := bcell hW x1; have e6 := bcell hW x2; clear hW; go_simp; try rfl)
                  simp only [Act.put, List.setIfInBounds_toArray, List.set_cons_zero, List.set_cons_succ]
                  refine takeInH 14 84 ?v84 rfl rfl (by kernel_rfl) (by kernel_rfl) (by kernel_rfl) (fun _ _ _ h => h) (by kernel_rfl) hS0 ?hy84 ?_
                  case hy84 => (intro W hW; clear hW; go_simp; try rfl)
                  simp only [Act.put, List.setIfInBounds_toArray, List.set_cons_zero, List.set_cons_succ]
                  refine takeInH 15 85 ?v85 rfl rfl (by kernel_rfl) (by kernel_rfl) (by kernel_rfl) (fun _ _ _ h => h) (by kernel_rfl) hS0 ?hy85 ?_
                  case hy85 => (intro W hW; clear hW; go_simp; try rfl)
                  simp only [Act.put, List.setIfInBounds_toArray, List.set_cons_zero, List.set_cons_succ]
                  refine takeInH 16 86 ?v86 rfl rfl (by kernel_rfl) (by kernel_rfl) (by kernel_rfl) (fun _ _ _ h => h) (by kernel_rfl) hS0 ?hy86 ?_
                  case hy86 => (intro W hW; have e0 := bcell hW c0; have e1 := bcell hW c1; have e2 := bcell hW c2; have e3 := bcell hW c3; have e4 := bcell hW x0; have e5 := bcell hW x1; have e6 := bcell hW x2; clear hW; go_simp; try rfl)
                  simp only [Act.put, List.setIfInBounds_toArray, List.set_cons_zero, List.set_cons_succ]
                  refine wpAnyH_ready (rs := [17]) (by kernel_rfl) (by simp) ?_
                  refine AllReadyH.cons rfl (fun K hK => ?_) AllReadyH.nil
                  go_simp
                  refine (Does_any r s pa na ca (some ⟨be, offe, none⟩) ne ce c le 2 a2 (strOfNums f3) _ (HEF.out.below (bel_next BU.out hS0))).mono ?_
                  rintro e9 wn ⟨rfl, hb⟩
                  rw [show doesB ((r, s), c, le) 2 a2 (strOfNums f3) = true from HDB.out]
                  refine hK.out _ _ ?hs87 (fun hS1 => ?_)
                  case hs87 => exact bel_next hS0 hb
                  clear hK K hb
                  try simp only [Act.put, List.setIfInBounds_toArray, List.set_cons_zero, List.set_cons_succ]
                  refine takeInH 18 88 ?v88 rfl rfl (by kernel_rfl) (by kernel_rfl) (by kernel_rfl) (fun _ _ _ h => h) (by kernel_rfl) hS1 ?hy88 ?_
                  case hy88 => (intro W hW; clear hW; go_simp; try rfl)
                  simp only [Act.put, List.setIfInBounds_toArray, List.set_cons_zero, List.set_cons_succ]
                  refine takeInH 19 89 ?v89 rfl rfl (by kernel_rfl) (by kernel_rfl) (by kernel_rfl) (fun _ _ _ h => h) (by kernel_rfl) hS1 ?hy89 ?_
                  case hy89 => (intro W hW; clear hW; go_simp; try rfl)
                  simp only [Act.put, List.setIfInBounds_toArray, List.set_cons_zero, List.set_cons_succ]
                  refine wpAnyH_done (by kernel_rfl) ?_ _
                  replace BU := hide (bel_next BU.out hS1)
                  replace BX1 := hide (bel_next BX1.out hS1)
                  clear c0 c1 c2 c3 x0 x1 x2
                  replace HNS := hide (HNS.out.below hS1)
                  have HNE := HNS
                  have HCE := HCS
                  have hnq := HNL.out
                  subst hnq
                  go_wp2
                  go_roundw
                  case rel => exact ⟨k + 1, _, _, _, by omega, by go_num, rfl, HNE, HCE, HSE, HTE, (show Hid _ from bel_next HB2.out (bel_next HBW.out BX1.out))⟩
                  case measure => simp [intOf]; omega
              · have hq1 : (f1 == 2) = false := by rw [beq_eq_false_iff_ne]; exact h1
                have hq2 : (f1 == 1) = false := by rw [beq_eq_false_iff_ne]; exact h3
                have HTE : Hid (ST9 S (16 * i + (k + 1))) := HST.out.up
                have HSE : Hid (S = mid9 a2 S0 ((r, s), c, le) (k + 1)) := by unfold Hid; rw [mid9_step HXF.out, ← HSM.out, stepY_no (.inr ⟨h1, .inl h3⟩)]
                obtain rfl : a2 = f2 := h2.symm
                go_upto_region 13 with fail
                refine wp_region_held_drew (S := fun W => Below u0.heap.size u0 W) (by kernel_rfl) ((Below.refl _ u0).drew) (fun hS0 => ?_)
                refine takeInH 0 70 ?v90 rfl rfl (by kernel_rfl) (by kernel_rfl) (by kernel_rfl) (fun _ _ _ h => h) (by kernel_rfl) hS0 ?hy90 ?_
                case hy90 => (intro W hW; clear hW; go_simp; try rfl)
                simp only [Act.put, List.setIfInBounds_toArray, List.set_cons_zero, List.set_cons_succ]
                refine takeInH 1 71 ?v91 rfl rfl (by kernel_rfl) (by kernel_rfl) (by kernel_rfl) (fun _ _ _ h => h) (by kernel_rfl) hS0 ?hy91 ?_
                case hy91 => (intro W hW; have e0 := bcell hW c0; have e1 := bcell hW c1; have e2 := bcell hW c2; have e3 := bcell hW c3; have e4 := bcell hW x0; have e5 := bcell hW x1; have e6 := bcell hW x2; clear hW; go_simp; try rfl)
                simp only [Act.put, List.setIfInBounds_toArray, List.set_cons_zero, List.set_cons_succ]
                refine takeInH 2 72 ?v92 rfl rfl (by kernel_rfl) (by kernel_rfl) (by kernel_rfl) (fun _ _ _ h => h) (by kernel_rfl) hS0 ?hy92 ?_
                case hy92 => (intro W hW; clear hW; go_simp; try rfl)
                simp only [Act.put, List.setIfInBounds_toArray, List.set_cons_zero, List.set_cons_succ]
                refine takeInH 3 73 ?v93 rfl rfl (by kernel_rfl) (by kernel_rfl) (by kernel_rfl) (fun _ _ _ h => h) (by kernel_rfl) hS0 ?hy93 ?_
                case hy93 => (intro W hW; clear hW; go_simp; try rfl)
                simp only [Act.put, List.setIfInBounds_toArray, List.set_cons_zero, List.set_cons_succ]
                refine takeInH 4 74 ?v94 rfl rfl (by kernel_rfl) (by kernel_rfl) (by kernel_rfl) (fun _ _ _ h => h) (by kernel_rfl) hS0 ?hy94 ?_
                case hy94 => (intro W hW; clear hW; go_simp; try rfl)
                simp only [Act.put, List.setIfInBounds_toArray, List.set_cons_zero, List.set_cons_succ]
                refine takeInH 5 75 ?v95 rfl rfl (by kernel_rfl) (by kernel_rfl) (by kernel_rfl) (fun _ _ _ h => h) (by kernel_rfl) hS0 ?hy95 ?_
                case hy95 => (intro W hW; clear hW; go_simp; try rfl)
                simp only [Act.put, List.setIfInBounds_toArray, List.set_cons_zero, List.set_cons_succ]
                refine takeInH 6 76 ?v96 rfl rfl (by kernel_rfl) (by kernel_rfl) (by kernel_rfl) (fun _ _ _ h => h) (by kernel_rfl) hS0 ?hy96 ?_
                case hy96 => (intro W hW; have e0 := bcell hW c0; have e1 := bcell hW c1; have e2 := bcell hW c2; have e3 := bcell hW c3; have e4 := bcell hW x0; have e5 := bcell hW x1; have e6 := bcell hW x2; clear hW; go_simp; try rfl)
                simp only [Act.put, List.setIfInBounds_toArray, List.set_cons_zero, List.set_cons_succ]
                refine takeInH 7 77 ?v97 rfl rfl (by kernel_rfl) (by kernel_rfl) (by kernel_rfl) (fun _ _ _ h => h) (by kernel_rfl) hS0 ?hy97 ?_
                case hy97 => (intro W hW; clear hW; go_simp; try rfl)
                simp only [Act.put, List.setIfInBounds_toArray, List.set_cons_zero, List.set_cons_succ]
                refine takeInH 8 78 ?v98 rfl rfl (by kernel_rfl) (by kernel_rfl) (by kernel_rfl) (fun _ _ _ h => h) (by kernel_rfl) hS0 ?hy98 ?_
                case hy98 => (intro W hW; clear hW; go_simp; try rfl)
                simp only [Act.put, List.setIfInBounds_toArray, List.set_cons_zero, List.set_cons_succ]
                refine takeInH 9 79 ?v99 rfl rfl (by kernel_rfl) (by kernel_rfl) (by kernel_rfl) (fun _ _ _ h => h) (by kernel_rfl) hS0 ?hy99 ?_
                case hy99 => (intro W hW; clear hW; go_simp; try rfl)
                simp only [Act.put, List.setIfInBounds_toArray, List.set_cons_zero, List.set_cons_succ]
                refine takeNoH 10 80 rfl rfl (by kernel_rfl) (by kernel_rfl) (by kernel_rfl) (fun _ _ _ h => h) (by kernel_rfl) hS0 ?_
                simp only [Act.put, List.setIfInBounds_toArray, List.set_cons_zero, List.set_cons_succ]
                refine takeNoH 11 81 rfl rfl (by kernel_rfl) (by kernel_rfl) (by kernel_rfl) (fun _ _ _ h => h) (by kernel_rfl) hS0 ?_
                simp only [Act.put, List.setIfInBounds_toArray, List.set_cons_zero, List.set_cons_succ]
                refine takeNoH 12 82 rfl rfl (by kernel_rfl) (by kernel_rfl) (by kernel_rfl) (fun _ _ _ h => h) (by kernel_rfl) hS0 ?_
                simp only [Act.put, List.setIfInBounds_toArray, List.set_cons_zero, List.set_cons_succ]
                refine takeNoH 13 83 rfl rfl (by kernel_rfl) (by kernel_rfl) (by kernel_rfl) (fun _ _ _ h => h) (by kernel_rfl) hS0 ?_
                simp only [Act.put, List.setIfInBounds_toArray, List.set_cons_zero, List.set_cons_succ]
                refine takeNoH 14 84 rfl rfl (by kernel_rfl) (by kernel_rfl) (by kernel_rfl) (fun _ _ _ h => h) (by kernel_rfl) hS0 ?_
                simp only [Act.put, List.setIfInBounds_toArray, List.set_cons_zero, List.set_cons_succ]
                refine takeNoH 15 85 rfl rfl (by kernel_rfl) (by kernel_rfl) (by kernel_rfl) (fun _ _ _ h => h) (by kernel_rfl) hS0 ?_
                simp only [Act.put, List.setIfInBounds_toArray, List.set_cons_zero, List.set_cons_succ]
                refine takeNoH 16 86 rfl rfl (by kernel_rfl) (by kernel_rfl) (by kernel_rfl) (fun _ _ _ h => h) (by kernel_rfl) hS0 ?_
                simp only [Act.put, List.setIfInBounds_toArray, List.set_cons_zero, List.set_cons_succ]
                refine takeNoH 17 87 rfl rfl (by kernel_rfl) (by kernel_rfl) (by kernel_rfl) (fun _ _ _ h => h) (by kernel_rfl) hS0 ?_
                simp only [Act.put, List.setIfInBounds_toArray, List.set_cons_zero, List.set_cons_succ]
                refine takeNoH 18 88 rfl rfl (by kernel_rfl) (by kernel_rfl) (by kernel_rfl) (fun _ _ _ h => h) (by kernel_rfl) hS0 ?_
                simp only [Act.put, List.setIfInBounds_toArray, List.set_cons_zero, List.set_cons_succ]
                refine takeInH 19 89 ?v100 rfl rfl (by kernel_rfl) (by kernel_rfl) (by kernel_rfl) (fun _ _ _ h => h) (by kernel_rfl) hS0 ?hy100 ?_
                case hy100 => (intro W hW; clear hW; go_simp; try rfl)
                simp only [Act.put, List.setIfInBounds_toArray, List.set_cons_zero, List.set_cons_succ]
                refine wpAnyH_done (by kernel_rfl) ?_ _
                replace BU := hide (bel_next BU.out hS0)
                replace BX1 := hide (bel_next BX1.out hS0)
                clear c0 c1 c2 c3 x0 x1 x2
                replace HNS := hide (HNS.out.below hS0)
                generalize u0.drew = wm at *
                have HNE := HNS
                have HCE := HCS
                have hnq := HNL.out
                subst hnq
                go_wp2
                go_roundw
                case rel => exact ⟨k + 1, _, _, _, by omega, by go_num, rfl, HNE, HCE, HSE, HTE, (show Hid _ from bel_next HB2.out (bel_next HBW.out BX1.out))⟩
                case measure => simp [intOf]; omega
          · have hq1 : (f2 == a2) = false := by rw [beq_eq_false_iff_ne]; exact h2
            have HTE : Hid (ST9 S (16 * i + (k + 1))) := HST.out.up
            have HSE : Hid (S = mid9 a2 S0 ((r, s), c, le) (k + 1)) := by unfold Hid; rw [mid9_step HXF.out, ← HSM.out, stepY_no (.inl h2)]
            go_upto_region 13 with fail
            refine wp_region_held_drew (S := fun W => Below u0.heap.size u0 W) (by kernel_rfl) ((Below.refl _ u0).drew) (fun hS0 => ?_)
            refine takeInH 0 70 ?v101 rfl rfl (by kernel_rfl) (by kernel_rfl) (by kernel_rfl) (fun _ _ _ h => h) (by kernel_rfl) hS0 ?hy101 ?_
            case hy101 => (intro W hW; clear hW; go_simp; try rfl)
            simp only [Act.put, List.setIfInBounds_toArray, List.set_cons_zero, List.set_cons_succ]
            refine takeInH 1 71 ?v102 rfl rfl (by kernel_rfl) (by kernel_rfl) (by kernel_rfl) (fun _ _ _ h => h) (by kernel_rfl) hS0 ?hy102 ?_
            case hy102 => (intro W hW; have e0 := bcell hW c0; have e1 := bcell hW c1; have e2 := bcell hW c2; have e3 := bcell hW c3; have e4 := bcell hW x0; have e5 := bcell hW x1; have e6 := bcell hW x2; clear hW; go_simp; try rfl)
            simp only [Act.put, List.setIfInBounds_toArray, List.set_cons_zero, List.set_cons_succ]
            refine takeInH 2 72 ?v103 rfl rfl (by kernel_rfl) (by kernel_rfl) (by kernel_rfl) (fun _ _ _ h => h) (by kernel_rfl) hS0 ?hy103 ?_
            case hy103 => (intro W hW; clear hW; go_simp; try rfl)
            simp only [Act.put, List.setIfInBounds_toArray, List.set_cons_zero, List.set_cons_succ]
            refine takeInH 3 73 ?v104 rfl rfl (by kernel_rfl) (by kernel_rfl) (by kernel_rfl) (fun _ _ _ h => h) (by kernel_rfl) hS0 ?hy104 ?_
            case hy104 => (intro W hW; clear hW; go_simp; try rfl)
            simp only [Act.put, List.setIfInBounds_toArray, List.set_cons_zero, List.set_cons_succ]
            refine takeInH 4 74 ?v105 rfl rfl (by kernel_rfl) (by kernel_rfl) (by kernel_rfl) (fun _ _ _ h => h) (by kernel_rfl) hS0 ?hy105 ?_
            case hy105 => (intro W hW; clear hW; go_simp; try rfl)
            simp only [Act.put, List.setIfInBounds_toArray, List.set_cons_zero, List.set_cons_succ]
            refine takeNoH 5 75 rfl rfl (by kernel_rfl) (by kernel_rfl) (by kernel_rfl) (fun _ _ _ h => h) (by kernel_rfl) hS0 ?_
            simp only [Act.put, List.setIfInBounds_toArray, List.set_cons_zero, List.set_cons_succ]
            refine takeNoH 6 76 rfl rfl (by kernel_rfl) (by kernel_rfl) (by kernel_rfl) (fun _ _ _ h => h) (by kernel_rfl) hS0 ?_
            simp only [Act.put, List.setIfInBounds_toArray, List.set_cons_zero, List.set_cons_succ]
            refine takeNoH 7 77 rfl rfl (by kernel_rfl) (by kernel_rfl) (by kernel_rfl) (fun _ _ _ h => h) (by kernel_rfl) hS0 ?_
            simp only [Act.put, List.setIfInBounds_toArray, List.set_cons_zero, List.set_cons_succ]
            refine takeInH 8 78 ?v106 rfl rfl (by kernel_rfl) (by kernel_rfl) (by kernel_rfl) (fun _ _ _ h => h) (by kernel_rfl) hS0 ?hy106 ?_
            case hy106 => (intro W hW; clear hW; go_simp; try rfl)
            simp only [Act.put, List.setIfInBounds_toArray, List.set_cons_zero, List.set_cons_succ]
            refine takeInH 9 79 ?v107 rfl rfl (by kernel_rfl) (by kernel_rfl) (by kernel_rfl) (fun _ _ _ h => h) (by kernel_rfl) hS0 ?hy107 ?_
            case hy107 => (intro W hW; clear hW; go_simp; try rfl)
            simp only [Act.put, List.setIfInBounds_toArray, List.set_cons_zero, List.set_cons_succ]
            refine takeNoH 10 80 rfl rfl (by kernel_rfl) (by kernel_rfl) (by kernel_rfl) (fun _ _ _ h => h) (by kernel_rfl) hS0 ?_
            simp only [Act.put, List.setIfInBounds_toArray, List.set_cons_zero, List.set_cons_succ]
            refine takeNoH 11 81 rfl rfl (by kernel_rfl) (by kernel_rfl) (by kernel_rfl) (fun _ _ _ h => h) (by kernel_rfl) hS0 ?_
            simp only [Act.put, List.setIfInBounds_toArray, List.set_cons_zero, List.set_cons_succ]
            refine takeNoH 12 82 rfl rfl (by kernel_rfl) (by kernel_rfl) (by kernel_rfl) (fun _ _ _ h => h) (by kernel_rfl) hS0 ?_
            simp only [Act.put, List.setIfInBounds_toArray, List.set_cons_zero, List.set_cons_succ]
            refine takeNoH 13 83 rfl rfl (by kernel_rfl) (by kernel_rfl) (by kernel_rfl) (fun _ _ _ h => h) (by kernel_rfl) hS0 ?_
            simp only [Act.put, List.setIfInBounds_toArray, List.set_cons_zero, List.set_cons_succ]
            refine takeNoH 14 84 rfl rfl (by kernel_rfl) (by kernel_rfl) (by kernel_rfl) (fun _ _ _ h => h) (by kernel_rfl) hS0 ?_
            simp only [Act.put, List.setIfInBounds_toArray, List.set_cons_zero, List.set_cons_succ]
            refine takeNoH 15 85 rfl rfl (by kernel_rfl) (by kernel_rfl) (by kernel_rfl) (fun _ _ _ h => h) (by kernel_rfl) hS0 ?_
            simp only [Act.put, List.setIfInBounds_toArray, List.set_cons_zero, List.set_cons_succ]
            refine takeNoH 16 86 rfl rfl (by kernel_rfl) (by kernel_rfl) (by kernel_rfl) (fun _ _ _ h => h) (by kernel_rfl) hS0 ?_
            simp only [Act.put, List.setIfInBounds_toArray, List.set_cons_zero, List.set_cons_succ]
            refine takeNoH 17 87 rfl rfl (by kernel_rfl) (by kernel_rfl) (by kernel_rfl) (fun _ _ _ h => h) (by kernel_rfl) hS0 ?_
            simp only [Act.put, List.setIfInBounds_toArray, List.set_cons_zero, List.set_cons_succ]
            refine takeNoH 18 88 rfl rfl (by kernel_rfl) (by kernel_rfl) (by kernel_rfl) (fun _ _ _ h => h) (by kernel_rfl) hS0 ?_
            simp only [Act.put, List.setIfInBounds_toArray, List.set_cons_zero, List.set_cons_succ]
            refine takeInH 19 89 ?v108 rfl rfl (by kernel_rfl) (by kernel_rfl) (by kernel_rfl) (fun _ _ _ h => h) (by kernel_rfl) hS0 ?hy108 ?_
            case hy108 => (intro W hW; clear hW; go_simp; try rfl)
            simp only [Act.put, List.setIfInBounds_toArray, List.set_cons_zero, List.set_cons_succ]
            refine wpAnyH_done (by kernel_rfl) ?_ _
            replace BU := hide (bel_next BU.out hS0)
            replace BX1 := hide (bel_next BX1.out hS0)
            clear c0 c1 c2 c3 x0 x1 x2
            replace HNS := hide (HNS.out.below hS0)
            generalize u0.drew = wm at *
            have HNE := HNS
            have HCE := HCS
            have hnq := HNL.out
            subst hnq
            go_wp2
            go_roundw
            case rel => exact ⟨k + 1, _, _, _, by omega, by go_num, rfl, HNE, HCE, HSE, HTE, (show Hid _ from bel_next HB2.out (bel_next HBW.out BX1.out))⟩
            case measure => simp [intOf]; omega
        · obtain rfl : k = ne := by omega
          have HSE0 : Hid (S = evY a2 (foldC a2 (knF cl es) es i) ((r, s), c, le)) := by unfold Hid; rw [HSM.out, mid9_end HLE.out, HS00.out]
          have HST2 : Hid (ST9 S (16 * (i + 1))) := HST.out.mono (by omega)
          have c3 := bcell HBW0.out C3.out
          clear HSM HS00
          cases cl
          · have HSF : Hid (S = foldC a2 (knF false es) es (i + 1)) := by unfold Hid; rw [foldC_none HX.out (knF_off es i)]; exact HSE0.out
            clear HST HSE0
            go_wp2
            go_roundw
            case rel => exact ⟨i + 1, ps, cs, S, by omega, by go_num, rfl, HNS, HCS, HSF, HST2, HBW0⟩
            case measure => simp [intOf]; omega
          · by_cases hl2 : i + 1 < n
            · clear HST2
              obtain ⟨r1, s1, pa1, na1, ca1, pe1, ne1, ce1, k1, le1, hx1, z0, z1, z2, z3, hN1, _, _, _⟩ := (HEV.out.below HBW0.out).at (i + 1) hl2
              have HX1 := hide hx1
              have HKN := hide (knF_on hx1)
              have HM1 : Hid (mayC k1 = true) := may_past (HMES.out _ (List.mem_of_getElem? hx1))
              have HN1 := hide hN1
              have hw1 : IntKind.i64.wrap ((i : Int) + 1) = (i : Int) + 1 := by rw [IntKind.wrap_i64]; omega
              have hw2 : IntKind.i64.wrap ((i : Int) + 2) = (i : Int) + 2 := by rw [IntKind.wrap_i64]; omega
              have hl3 : (i : Int) + 1 < (n : Int) := by omega
              have hl4 : (0 : Int) ≤ (i : Int) + 1 := by omega
              have htn : ((i : Int) + 1).toNat = i + 1 := by omega
              have HSZ : Hid (ST9 S (16 * i + k)) := HST.out
              clear hx1 hN1
              obtain ⟨nS, hnS⟩ : ∃ x, S.length = x := ⟨_, rfl⟩
              have HNSL := hide hnS
              rw [hnS] at HNS HCS ⊢
              clear hnS
              go_wp2
              clear z0 z1 z2 z3
              go_loopw [14, 15] (fun K v wr3 => ∃ (j : Nat) (pk : Option Addr) (nk ck : Nat) (kc : List Int), i + 2 ≤ j ∧ j ≤ n ∧ v = .int .i64 j ∧ K = .slice pk nk ck ∧ Hid (NS wr3 pk nk kc) ∧ Hid (kc = knL k1 ((es.drop (i + 2)).take (j - (i + 2)))) ∧ Hid (Below wr.heap.size wr wr3)) (fun _ v _ => n - (intOf v).toNat)
              case atStart => exact ⟨i + 2, pa1, na1, ca1, k1, by omega, by omega, by go_num, rfl, HN1, (show k1 = _ by simp [knL]), Below.refl _ _⟩
              case round =>
                obtain ⟨j, pk, nk, ck, kc, hj1, hj2, rfl, rfl, HNK, HKC, HB3⟩ := hrel
                have HBX := hide (bel_next HBW0.out HB3.out)
                by_cases hjn : j < n
                · obtain ⟨r3, s3, pa3, na3, ca3, pe3, ne3, ce3, k3, le3, hx3, z0, z1, z2, z3, hN3, _, _, _⟩ := (HEV.out.below HBX.out).at j hjn
                  have hj3 : (0 : Int) ≤ (j : Int) := by omega
                  have hj4 : (j : Int) < (n : Int) := by omega
                  have HKC2 : Hid (mt kc k3 = knL k1 ((es.drop (i + 2)).take (j + 1 - (i + 2)))) := by
                    unfold Hid
                    rw [drop_take_snoc hj1 hx3, knL_snoc, ← HKC.out]
                  have HME3 := hide (meet_ref pk pa3 nk ck na3 ca3 kc k3 wr HNK.out hN3)
                  clear hx3 hN3
                  go_wp2_with (go_at_call 51; refine HME3.out.mono ?_; rintro e w5 ⟨v5, rfl, ho5, hb5⟩)
                  obtain ⟨p5, c5, rfl, hn5, hc5⟩ := ho5.open
                  have HN5 := hide hn5
                  have HB5 := hide hb5
                  clear ho5 hn5 hc5 hb5 z0 z1 z2 z3
                  go_roundw
                  case rel => exact ⟨j + 1, p5, _, c5, _, by omega, by omega, by go_num, rfl, HN5, HKC2, (show Hid _ from bel_next HB3.out HB5.out)⟩
                  case measure => simp [intOf]; omega
                · obtain rfl : j = n := by omega
                  have HKE : Hid (kc = knL k1 (es.drop (i + 2))) := by
                    unfold Hid
                    rw [HKC.out, List.take_of_length_le (by rw [List.length_drop, HELN.out]; omega)]
                  have HMK9 : Hid (mayC kc = true) := by rw [HKE.out]; exact knL_may _ _ HM1.out
                  have HSF : Hid (mapP (cleanF kc) S = foldC a2 (knF true es) es (i + 1)) := by
                    unfold Hid
                    rw [foldC_some HX.out HKN.out, HSE0.out, HKE.out]
                  have HST2 : Hid (ST9 (mapP (cleanF kc) S) (16 * (i + 1))) := (HSZ.out.clean kc).mono (by omega)
                  have HCG := hide (Clean9_good ps nS cs S pk nk ck kc wr (HNS.out.below HB3.out) HNK.out HSZ.out.may HMK9.out (fun x hx => ⟨Nat.le_trans (HSZ.out.few x hx).1 (by omega), Nat.le_trans (HSZ.out.few x hx).2 (by omega)⟩))
                  go_wp2_with (go_at_call 21; refine HCG.out.mono ?_; rintro e w6 ⟨p6, c6, rfl, hn6, hc6, hb6⟩)
                  have HN6 := hide hn6
                  have HC6 := hide hc6
                  have HB6 := hide hb6
                  clear hn6 hc6 hb6
                  go_roundw
                  case rel => exact ⟨i + 1, p6, c6, _, by omega, by go_num, rfl, HN6, HC6, HSF, HST2, (show Hid _ from bel_next HBX.out HB6.out)⟩
                  case measure => simp [intOf]; omega
            · have hl3 : ¬ ((i : Int) + 1 < (n : Int)) := by omega
              have hw1 : IntKind.i64.wrap ((i : Int) + 1) = (i : Int) + 1 := by rw [IntKind.wrap_i64]; omega
              have HSF : Hid (S = foldC a2 (knF true es) es (i + 1)) := by unfold Hid; rw [foldC_none HX.out (knF_last (by rw [HELN.out]; omega))]; exact HSE0.out
              clear HST HSE0
              go_wp2
              go_roundw
              case rel => exact ⟨i + 1, ps, cs, S, by omega, by go_num, rfl, HNS, HCS, HSF, HST2, HBW0⟩
              case measure => simp [intOf]; omega
    · obtain rfl : n = i := by omega
      go_wp2
      go_ret2
      exact ⟨ps, cs, S, rfl, HNS.out, HCS.out, HSF.out, HST.out, HB.out⟩
end Go.Proofs.Ytiodlpoeifmldaa
