/- The document's Scan (layer 7). -/
import Derived.Test.YtofalfaiamaapaaQ1
import Derived.Deep.CutBlock
import Derived.Deep.CutRange
namespace Go.Proofs.Ytofalfaiamaapaa
open Go.RowKit
set_option linter.unusedVariables false
/-- What Scan tells, and where it lies. -/
def SCO (l : List Int) (w : World) (e : Ending) (w' : World) : Prop := ∃ V xs, e = .returned (.agg #[.int .u64 (scanRs l).1, V, .int .i64 ((scanRs l).2.2 : Int)]) ∧ RO w.heap.size w' V xs ∧ xs.map Rw.rc = (scanRs l).2.1 ∧ Below w.heap.size w w'
theorem SCO.zero {l : List Int} {w w' : World} (h : scanRs l = (0, [], 0)) (hb : Below w.heap.size w w') : SCO l w (.returned (.agg #[.int .u64 0, .slice none 0 0, .int .i64 0])) w' := by
  unfold SCO
  rw [h]
  exact ⟨.slice none 0 0, [], rfl, RO.nil _ _, rfl, hb⟩
set_option maxHeartbeats 8000000 in
theorem scanR_any (a : Option Addr) (n c : Nat) (l : List Int) (w : World) (hA : BS w a n l) (hC : CP a n c) (hn : n ≤ 500000) : Calls Try.prog 10 #[.slice a n c] w (SCO l w) := by
  have HA := hide hA
  have HC := hide hC
  have hl := hide hA.1
  have hcap := hC.1
  have hcm := hC.2.1
  unfold maxLen at hcm
  have hsl : ∀ i : Nat, (if c = i then a else Option.map (fun x => x.add i) a) = slA a c i := fun _ => rfl
  clear hA hC
  have HI : Hid (L1 w (((w.alloc (.cells #[.int .u64 0, .slice none 0 0, .int .i64 0] 32)).alloc (.cells #[] 71)).alloc (.cells #[] 3)) (.slice (some ⟨w.heap.size + 1, 0, none⟩) 0 0) (.slice (some ⟨w.heap.size + 1 + 1, 0, none⟩) 0 0) [] []) :=
    ⟨(OwnR.made (w.alloc (.cells #[.int .u64 0, .slice none 0 0, .int .i64 0] 32)) w.heap.size (w.heap.size + 1) (by simp) (by simp)).alloc _, (fun x hx => by simp at hx), OwnR.made ((w.alloc (.cells #[.int .u64 0, .slice none 0 0, .int .i64 0] 32)).alloc (.cells #[] 71)) w.heap.size (w.heap.size + 1 + 1) (by simp) (by simp; omega), ((BX.new w w.heap.size rfl #[.int .u64 0, .slice none 0 0, .int .i64 0] 32).alloc _).alloc _, bel_next (bel2 w _ _) (bel1 _ _)⟩
  go_enter Try.func10, Try.ntmps10
  go_wp2
  go_loopw [3, 4, 5] (fun V E at_ wr => ∃ (p f : Nat) (ps : List (Rc × Nat)) (xs : List Rw), at_ = .int .i64 p ∧ p ≤ n ∧ n + 1 ≤ f + p ∧ ps.length ≤ p ∧ Hid (recsE (l.length + 1) 0 l = ps ++ recsE f p (l.drop p)) ∧ Hid (xs.map Rw.rc = ps.map (·.1)) ∧ Hid (L1 w wr V E xs (ps.map fun q => (q.2 : Int)))) (fun _ _ at_ _ => n + 1 - (intOf at_).toNat)
  case atStart => exact ⟨0, n + 1, [], [], rfl, by omega, by omega, by simp, (show _ = _ by rw [hl.out]; simp), (show _ = _ from rfl), HI.out⟩
  case round =>
    clear HI
    obtain ⟨p, f, ps, xs, rfl, hp, hf, hpl, HRE, HXS, HL⟩ := hrel
    have hpI : (p : Int) ≤ (n : Int) := by omega
    have hpc : (p : Int) ≤ (c : Int) := by omega
    have hbs := hide ((HA.out.below HL.out.2.2.2.2).rest (c := c) p hp (by omega))
    have hcp := hide (HC.out.cut p n (Nat.le_refl _) hp)
    obtain ⟨pV, cV, hV, _, _⟩ := HL.out.1.open encW_len
    obtain ⟨pE, cE, hE, _, _⟩ := HL.out.2.2.1.open encI_len
    subst hV hE
    generalize hnx : xs.length = nx at *
    generalize hne : (ps.map fun q => (q.2 : Int)).length = ne at *
    have HNX := hide hnx
    have HNE := hide hne
    clear hnx hne
    go_wp2_with fail
    refine (refGetRec_any _ _ _ (l.drop p) _ hbs.out hcp.out).mono ?_
    rintro e w1 ⟨v, rfl, ho, hb⟩
    have hby : By (l.drop p) := (show By l from HA.out.2.2.1).drop p
    have hok := fun h => getRecord_ok hby h
    have hst0 : (getRecord (l.drop p)).2.2.2 = 0 → recsE f p (l.drop p) = (⟨(getRecord (l.drop p)).1, (getRecord (l.drop p)).2.1⟩, p + (getRecord (l.drop p)).2.2.1) :: recsE (f - 1) (p + (getRecord (l.drop p)).2.2.1) (l.drop (p + (getRecord (l.drop p)).2.2.1)) := by
      intro h
      obtain ⟨f', rfl⟩ : ∃ f', f = f' + 1 := ⟨f - 1, by omega⟩
      rw [recsE, if_pos h, List.drop_drop]
      rfl
    have hst1 := recsE_stop f p (l.drop p)
    have hdl : (l.drop p).length = n - p := by rw [List.length_drop, hl.out]
    rw [hdl] at hok
    generalize getRecord (l.drop p) = gr at *
    obtain ⟨rk, rb, rm, re⟩ := gr
    simp only [] at ho hok hst0 hst1 ⊢
    have LB := hide (HL.out.below hb)
    have HSZ1 := hide HL.out.sz
    have OB := hide (ho.mono HL.out.sz)
    clear hbs hcp hby hdl hb ho HL
    by_cases hre : re = 0
    · subst hre
      obtain ⟨o1, o2, o3, o4, o5, o6⟩ := hok rfl
      have HST := hide (hst0 rfl)
      obtain ⟨pv, cv, rfl, _, _⟩ := OB.out.open o6
      have HBY := hide o6
      have hxl : xs.length = ps.length := by have := congrArg List.length HXS.out; simpa using this
      clear hok hst0 hst1 o3 o4 o5 o6
      go_wp2_with (at_builtin; refine Stop.at ?_)
      unfold Stop
      have LB2 := hide (LB.out.below (bel1 w1 (.cells #[.int .i64 rk, .slice pv rb.length cv] 71)))
      refine append_rows rfl _ _ 30 rfl Try.underlying30 Try.infoRec rfl (by decide) (by decide) encW_len oneW' w.heap.size _ xs [(⟨rk, pv, cv, rb⟩ : Rw)] rfl LB2.out.1 (some ⟨w1.heap.size, 0, none⟩) 1 1 rfl (fun h => by cases h) (RSW.one w1 ⟨rk, pv, cv, rb⟩) (by simp; omega) LB2.out.sz ?_
      intro V2 w2 ho2 hg2 hbel2
      have LC := hide (LB2.out.putV (x := ⟨rk, pv, cv, rb⟩) (OB.out.below (bel1 _ _)) HBY.out ho2 hg2 hbel2)
      obtain ⟨pV2, cV2, hV2, _, _⟩ := ho2.open encW_len
      subst hV2
      generalize (xs ++ [(⟨rk, pv, cv, rb⟩ : Rw)]).length = nv at *
      clear ho2 hg2 hbel2 LB LB2 OB
      go_wp2_with (at_builtin; refine Stop.at ?_)
      unfold Stop
      have LC2 := hide (LC.out.below (bel1 w2 (.cells #[.int .i64 ((p : Int) + (rm : Int))] 3)))
      refine append_rows rfl _ _ 41 rfl Try.underlying41 Try.infoI8 rfl (by decide) (by decide) encI_len (fun x v hv => by simp [encI] at hv; subst hv; rfl) w.heap.size _ (ps.map fun q => (q.2 : Int)) [((p : Int) + (rm : Int))] rfl LC2.out.2.2.1 (some ⟨w2.heap.size, 0, none⟩) 1 1 rfl (fun h => by cases h) (RSI.one w2 _) (by simp; omega) LC2.out.sz ?_
      intro E3 w3 ho3 hg3 hbel3
      have LD := hide (LC2.out.putE ho3 hg3 hbel3)
      clear ho3 hg3 hbel3 LC LC2
      have HLD : Hid (L1 w w3 (.slice pV2 nv cV2) E3 (xs ++ [(⟨rk, pv, cv, rb⟩ : Rw)]) ((ps ++ [((⟨rk, rb⟩ : Rc), p + rm)]).map fun q => (q.2 : Int))) := by
        unfold Hid
        rw [List.map_append]
        simp only [List.map_cons, List.map_nil, Int.natCast_add]
        exact LD.out
      clear LD
      go_wp2
      go_roundw
      case rel => exact ⟨p + rm, f - 1, ps ++ [((⟨rk, rb⟩ : Rc), p + rm)], xs ++ [(⟨rk, pv, cv, rb⟩ : Rw)], by go_num, by omega, by omega, by simp; omega, (show _ = _ by rw [HRE.out, HST.out]; simp), (show _ = _ by rw [List.map_append, List.map_append, HXS.out]; rfl), HLD.out⟩
      case measure => simp [intOf]; omega
    · have hre' : (re != 0) = true := by simpa using hre
      have HSC : Hid (scanRs l = scanOf ps) := by
        unfold Hid scanRs
        rw [HRE.out, hst1 hre, List.append_nil]
      clear hok hst0 hst1 HRE OB
      have HBW := hide LB.out.2.2.2.2
      have ZB := hide LB.out.2.2.2.1
      rcases xs with _ | ⟨x0, xt⟩
      · have hps : ps = [] := by have := congrArg List.length HXS.out; simp at this; exact List.eq_nil_of_length_eq_zero this.symm
        have HRES : Hid (scanRs l = (0, [], 0)) := by unfold Hid; rw [HSC.out, hps]; rfl
        have hnx0 : nx = 0 := HNX.out.symm
        subst hnx0
        clear HSC HXS hps HNX
        have z0 := ZB.out.cell 0 _ rfl
        have z1 := ZB.out.cell 1 _ rfl
        have z2 := ZB.out.cell 2 _ rfl
        have zf := fun j => ZB.out.free j
        go_wp2
        obtain ⟨r1, r2, r3, r4⟩ := ZB.out.put3 (.int .u64 0) (.slice none 0 0) (.int .i64 0)
        exact bodyPost_ret (results_cell_row rfl _ _ _ _ _ _ _ rfl r1 Try.underlying32 rfl Try.infoFd) rfl (SCO.zero HRES.out (r3 _ _ HBW.out (Nat.le_refl _)))
      · rcases ps with _ | ⟨⟨y0, e0⟩, pt⟩
        · have := congrArg List.length HXS.out; simp at this
        have hy0 : y0 = x0.rc := by have q := HXS.out; simp at q; exact q.1.symm
        subst hy0
        have HXT : Hid (xt.map Rw.rc = pt.map (·.1)) := by unfold Hid; simpa using HXS.out
        have hx0 := LB.out.2.1 x0 (by simp)
        obtain ⟨hbv, hcv⟩ := hx0.1.sl hx0.2
        obtain ⟨pV', cV', hV, hRS, hCV⟩ := LB.out.1.open encW_len
        obtain ⟨gV, oV, hpV, hcV⟩ : ∃ b off, pV' = some ⟨b, off, none⟩ ∧ ∀ i x, (x0 :: xt)[i]? = some x → ∀ j v, (encW x)[j]? = some v → w1.cell? ⟨b, off + i * 2 + j, none⟩ = some v := by
          rcases hRS.2.2 with h0 | h0
          · simp at h0
          · exact h0
        injection hV with hV1 hV2 hV3
        subst hV1 hV3 hpV
        clear hV2
        obtain ⟨pE', cE', hE, hRE, hCE⟩ := LB.out.2.2.1.open encI_len
        obtain ⟨gE, oE, hpE, hcE⟩ : ∃ b off, pE' = some ⟨b, off, none⟩ ∧ ∀ i x, (((x0.rc, e0) :: pt).map fun q => (q.2 : Int))[i]? = some x → ∀ j v, (encI x)[j]? = some v → w1.cell? ⟨b, off + i * 1 + j, none⟩ = some v := by
          rcases hRE.2.2 with h0 | h0
          · simp at h0
          · exact h0
        injection hE with hE1 hE2 hE3
        subst hE1 hE3 hpE
        clear hE2
        have a0 := hcV 0 x0 rfl 0 _ rfl
        have a1 := hcV 0 x0 rfl 1 _ rfl
        simp only [Nat.zero_mul, Nat.add_zero, Rw.v] at a0 a1
        have HCV := hide hcV
        have HCE := hide hcE
        have V0 := hide hbv
        have HBO := hide LB.out.2.1
        have HNB : Hid (nx ≤ 500000) := by
          have q1 := HNX.out
          have q2 := congrArg List.length HXT.out
          simp at q1 q2 hpl
          unfold Hid
          omega
        have hnx5 : (nx : Int) ≤ 500000 := by have := HNB.out; omega
        have hnx1 : 1 ≤ nx := by have := HNX.out; simp at this; omega
        have hlx : (0 : Int) < (nx : Int) := by omega
        have hlz : ((nx : Int) == 0) = false := by simp; omega
        have hptl : Hid (pt.length = xt.length) := by have := congrArg List.length HXT.out; simp at this; exact this.symm
        clear hcV hcE hbv hx0 hRS hRE hCV hCE HXS
        by_cases hk1 : x0.k = 1
        · have HK1 : Hid (x0.rc.k = 1) := hk1
          have hk1' : (x0.k != 1) = false := by simp [hk1]
          go_wp2_with fail
          refine (refGetNum_any x0.p _ x0.c x0.b _ V0.out hcv).mono ?_
          rintro e w2 ⟨hg | ⟨u, m, hg, rfl⟩, hb⟩
          · obtain ⟨hg, rfl⟩ := hg
            have HRES : Hid (scanRs l = (0, [], 0)) := by
              unfold Hid
              rw [HSC.out]
              simp only [scanOf]
              rw [if_neg (by simp [HK1.out])]
              have q : getNum x0.rc.b = none := hg
              rw [q]
            replace HBW := hide (bel_next HBW.out hb)
            replace ZB := hide (ZB.out.below hb)
            replace a1 := bcell hb a1
            clear hb hg
            have z0 := ZB.out.cell 0 _ rfl
            have z1 := ZB.out.cell 1 _ rfl
            have z2 := ZB.out.cell 2 _ rfl
            have zf := fun j => ZB.out.free j
            go_wp2
            obtain ⟨r1, r2, r3, r4⟩ := ZB.out.put3 (.int .u64 0) (.slice none 0 0) (.int .i64 0)
            exact bodyPost_ret (results_cell_row rfl _ _ _ _ _ _ _ rfl r1 Try.underlying32 rfl Try.infoFd) rfl (SCO.zero HRES.out (r3 _ _ HBW.out (Nat.le_refl _)))
          · obtain ⟨u0, u1, m1, m2, m3, _, _⟩ := getNum_some V0.out.2.2.1 hg
            have HGN : Hid (getNum x0.rc.b = some (u, m)) := hg
            have HBM := hide (bel_next HBW.out hb)
            have ZBM := hide (ZB.out.below hb)
            have HSZ : Hid (w.heap.size ≤ w2.heap.size) := HBM.out.size
            replace a1 := bcell hb a1
            replace HBO : Hid (∀ x ∈ x0 :: xt, Own w.heap.size w2 x.v x.b ∧ By x.b) := fun x hx => ⟨(HBO.out x hx).1.below hb, (HBO.out x hx).2⟩
            have hcV : ∀ i x, (x0 :: xt)[i]? = some x → ∀ j v, (encW x)[j]? = some v → w2.cell? ⟨gV, oV + i * 2 + j, none⟩ = some v := fun i x hi j v hj => bcell hb (HCV.out i x hi j v hj)
            have HcV := hide hcV
            have hcE : ∀ i x, (((x0.rc, e0) :: pt).map fun q => (q.2 : Int))[i]? = some x → ∀ j v, (encI x)[j]? = some v → w2.cell? ⟨gE, oE + i * 1 + j, none⟩ = some v := fun i x hi j v hj => bcell hb (HCE.out i x hi j v hj)
            have HcE := hide hcE
            clear hcV hcE hsl HA HC
            have hm0 : ((m : Int) == 0) = false := by simp; omega
            clear hb hg HCV HCE
            by_cases hbad : m ≠ x0.b.length ∨ u < 1 ∨ 1099511627776 < u
            · have HRES : Hid (scanRs l = (0, [], 0)) := by
                unfold Hid
                rw [HSC.out]
                simp only [scanOf]
                rw [if_neg (by simp [HK1.out]), HGN.out]
                simp only []
                rw [if_pos (show m ≠ x0.rc.b.length ∨ u < 1 ∨ 1099511627776 < u from hbad)]
              have HBW2 := HBM
              have ZB2 := ZBM
              clear HBM ZBM HcV HcE HBO
              by_cases q1 : m = x0.b.length
              · by_cases q2 : u < 1
                · have q1' : ((m : Int) != (x0.b.length : Int)) = false := by simp [q1]
                  clear q1 hbad
                  have z0 := ZB2.out.cell 0 _ rfl
                  have z1 := ZB2.out.cell 1 _ rfl
                  have z2 := ZB2.out.cell 2 _ rfl
                  have zf := fun j => ZB2.out.free j
                  go_wp2
                  obtain ⟨r1, r2, r3, r4⟩ := ZB2.out.put3 (.int .u64 0) (.slice none 0 0) (.int .i64 0)
                  exact bodyPost_ret (results_cell_row rfl _ _ _ _ _ _ _ rfl r1 Try.underlying32 rfl Try.infoFd) rfl (SCO.zero HRES.out (r3 _ _ HBW2.out (Nat.le_refl _)))
                · have q3 : u > 1099511627776 := by omega
                  have q1' : ((m : Int) != (x0.b.length : Int)) = false := by simp [q1]
                  clear q1 hbad
                  have z0 := ZB2.out.cell 0 _ rfl
                  have z1 := ZB2.out.cell 1 _ rfl
                  have z2 := ZB2.out.cell 2 _ rfl
                  have zf := fun j => ZB2.out.free j
                  go_wp2
                  obtain ⟨r1, r2, r3, r4⟩ := ZB2.out.put3 (.int .u64 0) (.slice none 0 0) (.int .i64 0)
                  exact bodyPost_ret (results_cell_row rfl _ _ _ _ _ _ _ rfl r1 Try.underlying32 rfl Try.infoFd) rfl (SCO.zero HRES.out (r3 _ _ HBW2.out (Nat.le_refl _)))
              · have q1' : ((m : Int) != (x0.b.length : Int)) = true := by simp; omega
                clear q1 hbad
                have z0 := ZB2.out.cell 0 _ rfl
                have z1 := ZB2.out.cell 1 _ rfl
                have z2 := ZB2.out.cell 2 _ rfl
                have zf := fun j => ZB2.out.free j
                go_wp2
                obtain ⟨r1, r2, r3, r4⟩ := ZB2.out.put3 (.int .u64 0) (.slice none 0 0) (.int .i64 0)
                exact bodyPost_ret (results_cell_row rfl _ _ _ _ _ _ _ rfl r1 Try.underlying32 rfl Try.infoFd) rfl (SCO.zero HRES.out (r3 _ _ HBW2.out (Nat.le_refl _)))
            · have HOKN : Hid (¬ (m ≠ x0.rc.b.length ∨ u < 1 ∨ 1099511627776 < u)) := hbad
              have q1' : ((m : Int) != (x0.b.length : Int)) = false := by simp; omega
              have q2 : ¬ u < 1 := by omega
              have q3 : ¬ u > 1099511627776 := by omega
              have HPT : Hid (∀ j x, 1 ≤ j → (x0 :: xt)[j]? = some x → ∃ e : Nat, pt[j - 1]? = some (x.rc, e) ∧ (((x0.rc, e0) :: pt).map fun q => (q.2 : Int))[j]? = some (e : Int)) := by
                intro j x hj hx
                obtain ⟨i, rfl⟩ : ∃ i, j = i + 1 := ⟨j - 1, by omega⟩
                simp only [List.getElem?_cons_succ] at hx
                have q : (pt.map (·.1))[i]? = some x.rc := by rw [← HXT.out, List.getElem?_map, hx]; rfl
                rw [List.getElem?_map, Option.map_eq_some_iff] at q
                obtain ⟨⟨y, e⟩, hy, he⟩ := q
                simp only [] at he
                subst he
                exact ⟨e, hy, by simp [hy]⟩
              have hesl : Hid (ne = nx) := by unfold Hid; rw [← HNE.out, ← HNX.out]; simp [hptl.out]
              clear HNE
              generalize (((x0.rc, e0) :: pt).map fun q => (q.2 : Int)) = es at *
              generalize w2 = wM at *
              clear hbad a0 HBW ZB V0
              have HM := hide (bel1 wM (.cells #[.int .u64 u, .slice none 0 0, .int .i64 0] 32))
              have HL2 : Hid (L2 wM u [] 0 (wM.alloc (.cells #[.int .u64 u, .slice none 0 0, .int .i64 0] 32))) := ⟨_, BX.new wM _ rfl _ _, OwnR.nil _ _, HM.out⟩
              go_wp2
              generalize wM.alloc (.cells #[.int .u64 u, .slice none 0 0, .int .i64 0] 32) = wN at *
              go_loopw [13, 14] (fun wh i wr => ∃ (j : Nat) (b : Bool) (rs : List Rw) (en : Nat), i = .int .i64 j ∧ 1 ≤ j ∧ j ≤ nx ∧ wh = .bool b ∧ Hid (goF pt false [] 0 = goF (pt.drop (j - 1)) b (rs.map Rw.rc) en) ∧ Hid (∀ x ∈ rs, x ∈ x0 :: xt) ∧ rs.length ≤ j ∧ Hid (L2 wM u rs en wr)) (fun _ i _ => nx - (intOf i).toNat)
              case atStart => exact ⟨1, false, [], 0, rfl, by omega, hnx1, rfl, (show _ = _ by simp), (fun x hx => by simp at hx), by simp, HL2.out⟩
              case round =>
                clear HL2 HM a1
                obtain ⟨j, b, rs, en, rfl, hj1, hj2, rfl, HGF, HSUB, hrl, HL⟩ := hrel
                have HRL := hide hrl
                have HLB : Hid (rs.length + 1 ≤ 1000000) := by have := HNB.out; unfold Hid; omega
                clear hrl
                obtain ⟨VR, hbx, hor, hbl⟩ := HL.out
                have FB := hide hbx
                have OR := hide hor
                have HME := hide hbl
                have HBE : Hid (Below w.heap.size w wr) := HBM.out.trans (hbl.mono HSZ.out)
                have ZBE := hide (ZBM.out.below hbl)
                clear hbx hor hbl HL
                by_cases hlt : j < nx
                · obtain ⟨x, hx⟩ : ∃ x, (x0 :: xt)[j]? = some x := ⟨_, List.getElem?_eq_getElem (by rw [HNX.out]; exact hlt)⟩
                  obtain ⟨e, he⟩ : ∃ e : Nat, pt[j - 1]? = some (x.rc, e) ∧ es[j]? = some (e : Int) := HPT.out j x hj1 hx
                  have hdr : pt.drop (j - 1) = (x.rc, e) :: pt.drop j := by
                    have q := List.drop_eq_getElem_cons (l := pt) (i := j - 1) (List.getElem?_eq_some_iff.1 he.1).1
                    rw [q, (List.getElem?_eq_some_iff.1 he.1).2, show j - 1 + 1 = j by omega]
                  have hxo := HBO.out x (List.mem_of_getElem? hx)
                  have cc0 := bcell HME.out (HcV.out j x hx 0 _ rfl)
                  have cc1 := bcell HME.out (HcV.out j x hx 1 _ rfl)
                  have ce := bcell HME.out (HcE.out j _ he.2 0 _ rfl)
                  obtain ⟨xk, pv, cv, xb⟩ := x
                  simp only [Nat.add_zero, Nat.mul_one, Rw.v] at cc0 cc1 ce
                  have HX := hide hx
                  have HE := hide he
                  have hjl : (j : Int) < (nx : Int) := by omega
                  have HJN := hide hlt
                  have hj0 : (0 : Int) ≤ (j : Int) := by omega
                  have hje : (j : Int) < (ne : Int) := by rw [hesl.out]; exact hjl
                  rw [hdr] at HGF
                  clear hx he hdr hxo
                  go_upto_region 21 with fail
                  have G := hide (BX.new wr wr.heap.size rfl #[.int .i64 xk, .slice pv xb.length cv] 71)
                  have XB := hide (bel1 wr (.cells #[.int .i64 xk, .slice pv xb.length cv] 71))
                  replace FB := hide (FB.out.below XB.out)
                  replace OR := hide (OR.out.below XB.out)
                  replace HME := hide (HME.out.trans (XB.out.mono HME.out.size))
                  replace HBE := hide (bel_next HBE.out XB.out)
                  replace ZBE := hide (ZBE.out.below XB.out)
                  replace cc0 := bcell XB.out cc0
                  replace cc1 := bcell XB.out cc1
                  replace ce := bcell XB.out ce
                  clear XB
                  generalize wr.heap.size = kx at *
                  generalize wr.alloc (.cells #[.int .i64 xk, .slice pv xb.length cv] 71) = wE at *
                  have e0 := G.out.cell 0 _ rfl
                  have e1 := G.out.cell 1 _ rfl
                  have f2 := FB.out.cell 2 _ rfl
                  have ff := fun q => FB.out.free q
                  have FB2 := FB.out.set 2 (.int .i64 (e : Int))
                  by_cases hA : xk = 2 ∧ xb.length = 0 ∧ b = false
                  · obtain ⟨rfl, hxl, rfl⟩ := hA
                    have HGF2 : Hid (goF pt false [] 0 = goF (pt.drop (j + 1 - 1)) true (rs.map Rw.rc) e) := by
                      unfold Hid
                      rw [Nat.add_sub_cancel]
                      exact HGF.out.trans (goF_A rfl hxl)
                    have HLN : Hid (L2 wM u rs e (wE.setCell ⟨wM.heap.size, 2, none⟩ (.int .i64 (e : Int)))) := ⟨_, FB2, OR.out.set (OR.out.off FB.out (by decide)) _ _, HME.out.setCell (p := ⟨wM.heap.size, 2, none⟩) (Nat.le_refl _) _⟩
                    clear FB2
                    go_wp2
                    go_roundw
                    case rel => exact ⟨j + 1, true, rs, e, by go_num, by omega, HJN.out, rfl, HGF2, HSUB.out, by have := HRL.out; omega, HLN.out⟩
                    case measure => have := HJN.out; simp [intOf]; omega
                  · clear FB2
                    by_cases h10 : 10 ≤ xk
                    · have hb2 : (xk == 2) = false := by simp; omega
                      have HGF2 : Hid (goF pt false [] 0 = goF (pt.drop (j + 1 - 1)) b ((rs ++ [(⟨xk, pv, cv, xb⟩ : Rw)]).map Rw.rc) e) := by
                        unfold Hid
                        rw [Nat.add_sub_cancel, List.map_append]
                        exact HGF.out.trans (goF_B hA h10)
                      obtain ⟨pR, cR, hVR, _, _⟩ := OR.out.open encW_len
                      subst hVR
                      have f1 := FB.out.cell 1 _ rfl
                      clear hA
                      go_wp2_with (at_builtin; refine Stop.at ?_)
                      unfold Stop
                      refine append_rows rfl _ _ 30 rfl Try.underlying30 Try.infoRec rfl (by decide) (by decide) encW_len oneW' wM.heap.size _ rs [(⟨xk, pv, cv, xb⟩ : Rw)] rfl (OR.out.alloc _) (some ⟨wE.heap.size, 0, none⟩) 1 1 rfl (fun h => by cases h) (RSW.one wE ⟨xk, pv, cv, xb⟩) HLB.out (by have := HME.out.size; simp; omega) ?_
                      intro v3 w3 ho3 hg3 hbel3
                      have hF3 := (FB.out.alloc (.cells #[.int .i64 xk, .slice pv xb.length cv] 71)).grown hg3 (OR.out.off FB.out (by decide))
                      have HM3 := hide (hbel3 _ (HME.out.alloc HME.out.size (.cells #[.int .i64 xk, .slice pv xb.length cv] 71)))
                      obtain ⟨p3, c3, hv3, _, _⟩ := ho3.open encW_len
                      subst hv3
                      have O3 := hide ho3
                      have F3 := hide hF3
                      have g1 := F3.out.cell 1 _ rfl
                      have gf := fun q => F3.out.free q
                      have ce3 := bcell HM3.out (HcE.out j _ HE.out.2 0 _ rfl)
                      simp only [Nat.add_zero, Nat.mul_one] at ce3
                      clear ho3 hg3 hbel3 hF3 f1 f2 ff cc0 cc1 ce e0 e1
                      generalize (rs ++ [(⟨xk, pv, cv, xb⟩ : Rw)]).length = nr at *
                      go_upto_region 25 with fail
                      have F4 := hide (F3.out.set 1 (.slice p3 nr c3))
                      have O4 := hide (O3.out.set (O3.out.off F3.out (by decide)) 1 (.slice p3 nr c3))
                      have HM4 := hide (HM3.out.setCell (p := ⟨wM.heap.size, 1, none⟩) (Nat.le_refl _) (.slice p3 nr c3))
                      generalize w3.setCell ⟨wM.heap.size, 1, none⟩ (.slice p3 nr c3) = w4 at *
                      have ce4 := bcell HM4.out (HcE.out j _ HE.out.2 0 _ rfl)
                      simp only [Nat.add_zero, Nat.mul_one] at ce4
                      have k2 := F4.out.cell 2 _ rfl
                      have kf := fun q => F4.out.free q
                      have HLN : Hid (L2 wM u (rs ++ [(⟨xk, pv, cv, xb⟩ : Rw)]) e (w4.setCell ⟨wM.heap.size, 2, none⟩ (.int .i64 (e : Int)))) := ⟨_, F4.out.set 2 _, O4.out.set (O4.out.off F4.out (by decide)) _ _, HM4.out.setCell (p := ⟨wM.heap.size, 2, none⟩) (Nat.le_refl _) _⟩
                      have HSUB2 : Hid (∀ x ∈ rs ++ [(⟨xk, pv, cv, xb⟩ : Rw)], x ∈ x0 :: xt) := by
                        intro y hy
                        rcases List.mem_append.1 hy with q | q
                        · exact HSUB.out y q
                        · rw [List.mem_singleton.1 q]; exact List.mem_of_getElem? HX.out
                      clear g1 gf ce3
                      go_wp2
                      go_roundw
                      case rel => exact ⟨j + 1, b, _, e, by go_num, by omega, HJN.out, rfl, HGF2, HSUB2.out, by have := HRL.out; simp; omega, HLN.out⟩
                      case measure => have := HJN.out; simp [intOf]; omega
                    · have hb10 : ¬ xk ≥ 10 := by omega
                      replace HGF : Hid (goF pt false [] 0 = (b, rs.map Rw.rc, en)) := by
                        exact HGF.out.trans (goF_C hA h10)
                      have hbk : b = false → xk = 2 → xb.length ≠ 0 := fun q1 q2 q3 => hA ⟨q2, q3, q1⟩
                      clear hA f2 ff cc0 cc1 ce
                      by_cases h2 : xk = 2
                      · subst h2
                        by_cases hxl : xb.length = 0
                        · have hbt : b = true := by cases b; exact absurd hxl (hbk rfl rfl); rfl
                          subst hbt
                          clear hbk
                          go_upto_region 26 with fail
                          obtain ⟨pR, cR, rfl, hrs, hcp⟩ := OR.out.open encW_len
                          have HRES : Hid (scanRs l = (u, rs.map Rw.rc, en)) := by
                            unfold Hid
                            rw [HSC.out]
                            simp only [scanOf]
                            rw [if_neg (by simp [HK1.out]), HGN.out]
                            simp only []
                            rw [if_neg HOKN.out, HGF.out]
                            rfl
                          clear hrs hcp
                          have z0 := ZBE.out.cell 0 _ rfl
                          have z1 := ZBE.out.cell 1 _ rfl
                          have z2 := ZBE.out.cell 2 _ rfl
                          have zf := fun j => ZBE.out.free j
                          have f0 := FB.out.cell 0 _ rfl
                          have f1 := FB.out.cell 1 _ rfl
                          have f2 := FB.out.cell 2 _ rfl
                          go_wp2
                          obtain ⟨r1, r2, r3, r4⟩ := ZBE.out.put3 (.int .u64 u) (.slice pR rs.length cR) (.int .i64 (en : Int))
                          refine bodyPost_ret (results_cell_row rfl _ _ _ _ _ _ _ rfl r1 Try.underlying32 rfl Try.infoFd) rfl ?_
                          unfold SCO
                          rw [HRES.out]
                          have hne := OR.out.off ZBE.out (by decide)
                          refine ⟨.slice pR rs.length cR, rs, rfl, ⟨(((OR.out.set hne 0 (.int .u64 u)).set hne 1 (.slice pR rs.length cR)).set hne 2 (.int .i64 (en : Int))).mono HSZ.out, fun x hx => ?_⟩, rfl, r3 _ _ HBE.out (Nat.le_refl _)⟩
                          have q := HBO.out x (HSUB.out x hx)
                          have qb := Own.rows.1 (q.1.below HME.out)
                          have hnx := qb.off ZBE.out (by decide)
                          exact ⟨Own.rows.2 (((qb.set hnx 0 _).set hnx 1 _).set hnx 2 _), q.2⟩
                        · have hxl' : ((xb.length : Int) == 0) = false := by simp; intro q; exact hxl (by rw [q]; rfl)
                          clear hbk
                          go_upto_region 26 with fail
                          rcases b with _ | _
                          · have HRES : Hid (scanRs l = (0, [], 0)) := by
                              unfold Hid
                              rw [HSC.out]
                              simp only [scanOf]
                              rw [if_neg (by simp [HK1.out]), HGN.out]
                              simp only []
                              rw [if_neg HOKN.out, HGF.out]
                              rfl
                            have z0 := ZBE.out.cell 0 _ rfl
                            have z1 := ZBE.out.cell 1 _ rfl
                            have z2 := ZBE.out.cell 2 _ rfl
                            have zf := fun j => ZBE.out.free j
                            go_wp2
                            obtain ⟨r1, r2, r3, r4⟩ := ZBE.out.put3 (.int .u64 0) (.slice none 0 0) (.int .i64 0)
                            exact bodyPost_ret (results_cell_row rfl _ _ _ _ _ _ _ rfl r1 Try.underlying32 rfl Try.infoFd) rfl (SCO.zero HRES.out (r3 _ _ HBE.out (Nat.le_refl _)))
                          · obtain ⟨pR, cR, rfl, hrs, hcp⟩ := OR.out.open encW_len
                            have HRES : Hid (scanRs l = (u, rs.map Rw.rc, en)) := by
                              unfold Hid
                              rw [HSC.out]
                              simp only [scanOf]
                              rw [if_neg (by simp [HK1.out]), HGN.out]
                              simp only []
                              rw [if_neg HOKN.out, HGF.out]
                              rfl
                            clear hrs hcp
                            have z0 := ZBE.out.cell 0 _ rfl
                            have z1 := ZBE.out.cell 1 _ rfl
                            have z2 := ZBE.out.cell 2 _ rfl
                            have zf := fun j => ZBE.out.free j
                            have f0 := FB.out.cell 0 _ rfl
                            have f1 := FB.out.cell 1 _ rfl
                            have f2 := FB.out.cell 2 _ rfl
                            go_wp2
                            obtain ⟨r1, r2, r3, r4⟩ := ZBE.out.put3 (.int .u64 u) (.slice pR rs.length cR) (.int .i64 (en : Int))
                            refine bodyPost_ret (results_cell_row rfl _ _ _ _ _ _ _ rfl r1 Try.underlying32 rfl Try.infoFd) rfl ?_
                            unfold SCO
                            rw [HRES.out]
                            have hne := OR.out.off ZBE.out (by decide)
                            refine ⟨.slice pR rs.length cR, rs, rfl, ⟨(((OR.out.set hne 0 (.int .u64 u)).set hne 1 (.slice pR rs.length cR)).set hne 2 (.int .i64 (en : Int))).mono HSZ.out, fun x hx => ?_⟩, rfl, r3 _ _ HBE.out (Nat.le_refl _)⟩
                            have q := HBO.out x (HSUB.out x hx)
                            have qb := Own.rows.1 (q.1.below HME.out)
                            have hnx := qb.off ZBE.out (by decide)
                            exact ⟨Own.rows.2 (((qb.set hnx 0 _).set hnx 1 _).set hnx 2 _), q.2⟩
                      · have h2' : (xk == 2) = false := by simpa using h2
                        clear hbk
                        go_upto_region 26 with fail
                        rcases b with _ | _
                        · have HRES : Hid (scanRs l = (0, [], 0)) := by
                            unfold Hid
                            rw [HSC.out]
                            simp only [scanOf]
                            rw [if_neg (by simp [HK1.out]), HGN.out]
                            simp only []
                            rw [if_neg HOKN.out, HGF.out]
                            rfl
                          have z0 := ZBE.out.cell 0 _ rfl
                          have z1 := ZBE.out.cell 1 _ rfl
                          have z2 := ZBE.out.cell 2 _ rfl
                          have zf := fun j => ZBE.out.free j
                          go_wp2
                          obtain ⟨r1, r2, r3, r4⟩ := ZBE.out.put3 (.int .u64 0) (.slice none 0 0) (.int .i64 0)
                          exact bodyPost_ret (results_cell_row rfl _ _ _ _ _ _ _ rfl r1 Try.underlying32 rfl Try.infoFd) rfl (SCO.zero HRES.out (r3 _ _ HBE.out (Nat.le_refl _)))
                        · obtain ⟨pR, cR, rfl, hrs, hcp⟩ := OR.out.open encW_len
                          have HRES : Hid (scanRs l = (u, rs.map Rw.rc, en)) := by
                            unfold Hid
                            rw [HSC.out]
                            simp only [scanOf]
                            rw [if_neg (by simp [HK1.out]), HGN.out]
                            simp only []
                            rw [if_neg HOKN.out, HGF.out]
                            rfl
                          clear hrs hcp
                          have z0 := ZBE.out.cell 0 _ rfl
                          have z1 := ZBE.out.cell 1 _ rfl
                          have z2 := ZBE.out.cell 2 _ rfl
                          have zf := fun j => ZBE.out.free j
                          have f0 := FB.out.cell 0 _ rfl
                          have f1 := FB.out.cell 1 _ rfl
                          have f2 := FB.out.cell 2 _ rfl
                          go_wp2
                          obtain ⟨r1, r2, r3, r4⟩ := ZBE.out.put3 (.int .u64 u) (.slice pR rs.length cR) (.int .i64 (en : Int))
                          refine bodyPost_ret (results_cell_row rfl _ _ _ _ _ _ _ rfl r1 Try.underlying32 rfl Try.infoFd) rfl ?_
                          unfold SCO
                          rw [HRES.out]
                          have hne := OR.out.off ZBE.out (by decide)
                          refine ⟨.slice pR rs.length cR, rs, rfl, ⟨(((OR.out.set hne 0 (.int .u64 u)).set hne 1 (.slice pR rs.length cR)).set hne 2 (.int .i64 (en : Int))).mono HSZ.out, fun x hx => ?_⟩, rfl, r3 _ _ HBE.out (Nat.le_refl _)⟩
                          have q := HBO.out x (HSUB.out x hx)
                          have qb := Own.rows.1 (q.1.below HME.out)
                          have hnx := qb.off ZBE.out (by decide)
                          exact ⟨Own.rows.2 (((qb.set hnx 0 _).set hnx 1 _).set hnx 2 _), q.2⟩
                · have hjn : j = nx := by omega
                  replace HGF : Hid (goF pt false [] 0 = (b, rs.map Rw.rc, en)) := by
                    unfold Hid
                    rw [HGF.out, List.drop_of_length_le (by have := HNX.out; simp at this; rw [hptl.out, hjn]; omega)]
                    rfl
                  have hnl : ¬ ((j : Int) < (nx : Int)) := by omega
                  generalize wr = wE at *
                  go_upto_region 26 with fail
                  rcases b with _ | _
                  · have HRES : Hid (scanRs l = (0, [], 0)) := by
                      unfold Hid
                      rw [HSC.out]
                      simp only [scanOf]
                      rw [if_neg (by simp [HK1.out]), HGN.out]
                      simp only []
                      rw [if_neg HOKN.out, HGF.out]
                      rfl
                    have z0 := ZBE.out.cell 0 _ rfl
                    have z1 := ZBE.out.cell 1 _ rfl
                    have z2 := ZBE.out.cell 2 _ rfl
                    have zf := fun j => ZBE.out.free j
                    go_wp2
                    obtain ⟨r1, r2, r3, r4⟩ := ZBE.out.put3 (.int .u64 0) (.slice none 0 0) (.int .i64 0)
                    exact bodyPost_ret (results_cell_row rfl _ _ _ _ _ _ _ rfl r1 Try.underlying32 rfl Try.infoFd) rfl (SCO.zero HRES.out (r3 _ _ HBE.out (Nat.le_refl _)))
                  · obtain ⟨pR, cR, rfl, hrs, hcp⟩ := OR.out.open encW_len
                    have HRES : Hid (scanRs l = (u, rs.map Rw.rc, en)) := by
                      unfold Hid
                      rw [HSC.out]
                      simp only [scanOf]
                      rw [if_neg (by simp [HK1.out]), HGN.out]
                      simp only []
                      rw [if_neg HOKN.out, HGF.out]
                      rfl
                    clear hrs hcp
                    have z0 := ZBE.out.cell 0 _ rfl
                    have z1 := ZBE.out.cell 1 _ rfl
                    have z2 := ZBE.out.cell 2 _ rfl
                    have zf := fun j => ZBE.out.free j
                    have f0 := FB.out.cell 0 _ rfl
                    have f1 := FB.out.cell 1 _ rfl
                    have f2 := FB.out.cell 2 _ rfl
                    go_wp2
                    obtain ⟨r1, r2, r3, r4⟩ := ZBE.out.put3 (.int .u64 u) (.slice pR rs.length cR) (.int .i64 (en : Int))
                    refine bodyPost_ret (results_cell_row rfl _ _ _ _ _ _ _ rfl r1 Try.underlying32 rfl Try.infoFd) rfl ?_
                    unfold SCO
                    rw [HRES.out]
                    have hne := OR.out.off ZBE.out (by decide)
                    refine ⟨.slice pR rs.length cR, rs, rfl, ⟨(((OR.out.set hne 0 (.int .u64 u)).set hne 1 (.slice pR rs.length cR)).set hne 2 (.int .i64 (en : Int))).mono HSZ.out, fun x hx => ?_⟩, rfl, r3 _ _ HBE.out (Nat.le_refl _)⟩
                    have q := HBO.out x (HSUB.out x hx)
                    have qb := Own.rows.1 (q.1.below HME.out)
                    have hnx := qb.off ZBE.out (by decide)
                    exact ⟨Own.rows.2 (((qb.set hnx 0 _).set hnx 1 _).set hnx 2 _), q.2⟩
        · have HRES : Hid (scanRs l = (0, [], 0)) := by
            unfold Hid
            rw [HSC.out]
            simp only [scanOf]
            rw [if_pos (show x0.rc.k ≠ 1 from hk1)]
          have hk1' : (x0.k != 1) = true := by simpa using hk1
          have z0 := ZB.out.cell 0 _ rfl
          have z1 := ZB.out.cell 1 _ rfl
          have z2 := ZB.out.cell 2 _ rfl
          have zf := fun j => ZB.out.free j
          go_wp2
          obtain ⟨r1, r2, r3, r4⟩ := ZB.out.put3 (.int .u64 0) (.slice none 0 0) (.int .i64 0)
          exact bodyPost_ret (results_cell_row rfl _ _ _ _ _ _ _ rfl r1 Try.underlying32 rfl Try.infoFd) rfl (SCO.zero HRES.out (r3 _ _ HBW.out (Nat.le_refl _)))
end Go.Proofs.Ytofalfaiamaapaa
