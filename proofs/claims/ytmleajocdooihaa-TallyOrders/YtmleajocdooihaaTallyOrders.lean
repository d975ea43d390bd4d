/- In which order numbers are added does not matter. -/
import Derived.Test.YtmleajocdooihaaRows
import Derived.WalkKit
import Derived.ProofKit
import Derived.OpenShut
import Derived.ShutString
import Derived.ChangeOld
import Derived.Below
import Derived.SizedLaws
import Derived.Test.YtmleajocdooihaaGT5
namespace Go.Proofs.Ytmleajocdooihaa.tallyOrders
open Go.ChangeShapes Go.WideShapes Go.ChangeAt Go.RowKit
set_option linter.unusedVariables false

theorem own : ownKnob Try.prog.godebug = none := by kernel_rfl
theorem laidOut : laidOutB Try.prog = true := by kernel_rfl

set_option maxRecDepth 4000 in
set_option maxHeartbeats 16000000 in
theorem walk (v0 : Value) (v1 : Value) (w : World) (w0 : InTs w v0) (w1 : InU w v1) :
    Calls Try.prog 4 #[v0, v1] w fun e w' => e = .returned (.bool true) ∧ Below w.heap.size w w' := by
  obtain ⟨a, n, cap, s, rfl, hA, hcp⟩ := w0
  obtain ⟨pt, nt, ct, tl, rfl, hT, _⟩ := w1
  have HV := hide hA
  have HT := hide hT
  have HLEN := hide hA.1
  have HCP := hide hcp.2.2
  have BB : Hid (Below w.heap.size w w) := Below.refl _ _
  clear hA hcp hT
  go_enter Try.func4, Try.ntmps4
  go_wp2_with (go_at_call 6; refine (light10 a n cap s _ HV.out).mono ?_; rintro e w1 ⟨bl, rfl, hl, rfl⟩; refine Stop.at ?_)
  unfold Stop
  cases bl
  · clear hl
    go_wp2_with (go_at_call 7; refine (awake10 _).mono ?_; rintro e wz ⟨rfl, hb⟩)
    go_ret
    exact ⟨rfl, bel_next BB.out hb⟩
  · obtain ⟨hn60, hfew⟩ := hl rfl
    clear hl hfew
    by_cases h1 : (nt : Int) ≤ 100
    · have HTX : Hid (∀ i, i < nt → ∃ x : Int, (∃ bt offt, pt = some ⟨bt, offt, none⟩ ∧ w1.cell? ⟨bt, offt + i, none⟩ = some (.int .u8 x)) ∧ 0 ≤ x ∧ x < 256) := by
        intro i hi
        obtain ⟨g1, g2, g3, g4⟩ := HT.out
        rcases g4 with h0 | ⟨bt, offt, hp, hc⟩
        · omega
        · refine ⟨tl.getD i 0, ⟨bt, offt, hp, hc i hi⟩, ?_⟩
          have hl : i < tl.length := by rw [g1]; exact hi
          rw [List.getD_eq_getElem?_getD, List.getElem?_eq_getElem hl]
          exact g3 _ (List.getElem_mem hl)
      go_wp2_with (at_builtin; refine Stop.at ?_)
      unfold Stop
      have BQ1 := hide (bel1 w1 (.cells #[] 36))
      have BQ2 := hide (bel1 (w1.alloc (.cells #[] 36)) (.cells #[] 36))
      have BQ3 := hide (bel1 ((w1.alloc (.cells #[] 36)).alloc (.cells #[] 36)) (.cells #[] 36))
      have BQ := hide (bel_next (bel_next BQ1.out BQ2.out) BQ3.out)
      have HSZ : Hid (w1.heap.size ≤ ((w1.alloc (.cells #[] 36)).alloc (.cells #[] 36)).heap.size) := (bel_next BQ1.out BQ2.out).size
      refine append_rows rfl _ _ 22 rfl Try.underlying22 Try.infoCel rfl (by decide) (by decide) encC_len encC_one w1.heap.size _ [] s rfl (OwnR.made ((w1.alloc (.cells #[] 36)).alloc (.cells #[] 36)) w1.heap.size (w1.heap.size + 1 + 1) (by simp) HSZ.out) a n cap rfl HCP.out (HV.out.below BQ.out) (by rw [HLEN.out, List.length_nil]; omega) BQ.out.size ?_
      intro v0 w4 ho4 hg4 hbel4
      rw [List.nil_append] at ho4
      obtain ⟨p0, c0', hv0, hn0, hc0⟩ := ho4.open encC_len
      subst hv0
      have HNL0 := hide hn0
      have HCL0 := hide hc0
      have HB4 := hide (hbel4 _ BQ.out)
      have HNA0 := hide (TS.nil w4 (some ⟨w1.heap.size, 0, none⟩))
      have HNB0 := hide (TS.nil w4 (some ⟨w1.heap.size + 1, 0, none⟩))
      have HPM0 : Hid (([] ++ s).Perm s) := List.Perm.refl _
      clear ho4 hg4 hbel4 hn0 hc0 BQ1 BQ2 BQ3 BQ
      go_wp2
      go_loopw [5, 6, 7, 8] (fun Va Vb Vl v wr => ∃ (i : Nat) (pa : Option Addr) (ca : Nat) (A : List Ce) (pb : Option Addr) (cb : Nat) (B : List Ce) (pl : Option Addr) (cl : Nat) (L D : List Ce), i ≤ n ∧ v = .int .i64 i ∧ Va = .slice pa A.length ca ∧ Vb = .slice pb B.length cb ∧ Vl = .slice pl L.length cl ∧ Hid (TS wr pa A.length A) ∧ Hid (TS wr pb B.length B) ∧ Hid (TS wr pl L.length L) ∧ Hid (CP pl L.length cl) ∧ Hid (CP pa A.length ca) ∧ Hid (CP pb B.length cb) ∧ Hid (TA A (s.take i)) ∧ Hid (TA B D) ∧ Hid ((D ++ L).Perm s) ∧ Hid (L.length = n - i) ∧ Hid (Below w1.heap.size w1 wr)) (fun _ _ _ v _ => n - (intOf v).toNat)
      case atStart => exact ⟨0, _, 0, [], _, 0, [], p0, c0', s, [], by omega, rfl, rfl, rfl, rfl, HNA0, HNB0, HNL0, HCL0, (show Hid _ from ⟨Nat.le_refl _, by decide, fun h => by cases h⟩), (show Hid _ from ⟨Nat.le_refl _, by decide, fun h => by cases h⟩), TA.nil, TA.nil, HPM0, (show _ = _ by rw [HLEN.out]; rfl), HB4⟩
      case round =>
        clear HNA0 HNB0 HNL0 HCL0 HPM0 HB4
        obtain ⟨i, pa, ca, A, pb, cb, B, pl, cl, L, D, hi, rfl, rfl, rfl, rfl, HNA, HNB, HNL, HCL, HCA, HCB, HTA, HTB, HPM, HLL, BBU⟩ := hrel
        by_cases hlt : i < n
        · obtain ⟨b, off, rfl⟩ := HV.out.addr (by omega)
          obtain ⟨k, m, hx, c0, c1⟩ := (HV.out.below (bel_next BB.out BBU.out)).at i hlt
          have HX := hide hx
          have hi0 : (0 : Int) ≤ (i : Int) := by omega
          have hi1 : (i : Int) < (n : Int) := by omega
          have HTA2 := hide (HTA.out.step (k, m) (by rw [List.length_take]; omega))
          rw [← takeG_snoc HX.out] at HTA2
          obtain ⟨nL, hnL0⟩ : ∃ x, L.length = x := ⟨_, rfl⟩
          have hLpos : 0 < nL := by have := HLL.out; omega
          have hnL60 : nL ≤ 60 := by have := HLL.out; omega
          obtain ⟨nA, hnA⟩ : ∃ x, A.length = x := ⟨_, rfl⟩
          obtain ⟨nB, hnB⟩ : ∃ x, B.length = x := ⟨_, rfl⟩
          have HLA := hide hnA
          have HLB := hide hnB
          rw [hnL0] at HNL HCL HLL ⊢
          rw [hnA] at HNA HCA ⊢
          rw [hnB] at HNB HCB ⊢
          have hcl1 := HCL.out.1
          have hcl2 := HCL.out.2.1
          unfold maxLen at hcl2
          obtain ⟨bl0, offl, rfl⟩ := HNL.out.addr hLpos
          have hnLL : L.length = nL := hnL0
          clear hx hnA hnB hnL0
          rcases hok : okT (k, m) with _ | _
          · have HNOA : Hid ((mayT A && okT (k, m)) = false) := by unfold Hid; rw [hok, Bool.and_false]
            have HTA3 : Hid (TA A (s.take (i + 1))) := by have := HTA2.out; unfold stepT at this; rw [hok] at this; exact this
            clear hok
            have HLL2 := hide hnLL
            clear hnLL
            go_upto_region 8 with fail
            refine wp_region_held_drew (S := fun W => Below wr.heap.size wr W) (by kernel_rfl) ((Below.refl _ wr).drew) (fun hS0 => ?_)
            refine takeInH 0 35 ?v52 rfl rfl (by kernel_rfl) (by kernel_rfl) (by kernel_rfl) (fun _ _ _ h => h) (by kernel_rfl) hS0 ?hy52 ?_
            case hy52 => (intro W hW; clear hW; go_simp; try rfl)
            simp only [Act.put, List.setIfInBounds_toArray, List.set_cons_zero, List.set_cons_succ]
            refine takeInH 1 36 ?v53 rfl rfl (by kernel_rfl) (by kernel_rfl) (by kernel_rfl) (fun _ _ _ h => h) (by kernel_rfl) hS0 ?hy53 ?_
            case hy53 => (intro W hW; clear hW; go_simp; try rfl)
            simp only [Act.put, List.setIfInBounds_toArray, List.set_cons_zero, List.set_cons_succ]
            refine takeInH 2 37 ?v54 rfl rfl (by kernel_rfl) (by kernel_rfl) (by kernel_rfl) (fun _ _ _ h => h) (by kernel_rfl) hS0 ?hy54 ?_
            case hy54 => (intro W hW; clear hW; go_simp; try rfl)
            simp only [Act.put, List.setIfInBounds_toArray, List.set_cons_zero, List.set_cons_succ]
            refine takeInH 3 38 ?v55 rfl rfl (by kernel_rfl) (by kernel_rfl) (by kernel_rfl) (fun _ _ _ h => h) (by kernel_rfl) hS0 ?hy55 ?_
            case hy55 => (intro W hW; clear hW; go_simp; try rfl)
            simp only [Act.put, List.setIfInBounds_toArray, List.set_cons_zero, List.set_cons_succ]
            refine takeInH 4 39 ?v56 rfl rfl (by kernel_rfl) (by kernel_rfl) (by kernel_rfl) (fun _ _ _ h => h) (by kernel_rfl) hS0 ?hy56 ?_
            case hy56 => (intro W hW; clear hW; go_simp; try rfl)
            simp only [Act.put, List.setIfInBounds_toArray, List.set_cons_zero, List.set_cons_succ]
            refine takeInH 5 40 ?v57 rfl rfl (by kernel_rfl) (by kernel_rfl) (by kernel_rfl) (fun _ _ _ h => h) (by kernel_rfl) hS0 ?hy57 ?_
            case hy57 => (intro W hW; have e0 := bcell hW c0; have e1 := bcell hW c1; clear hW; go_simp; try rfl)
            simp only [Act.put, List.setIfInBounds_toArray, List.set_cons_zero, List.set_cons_succ]
            refine takeInH 6 41 ?v58 rfl rfl (by kernel_rfl) (by kernel_rfl) (by kernel_rfl) (fun _ _ _ h => h) (by kernel_rfl) hS0 ?hy58 ?_
            case hy58 => (intro W hW; clear hW; go_simp; try rfl)
            simp only [Act.put, List.setIfInBounds_toArray, List.set_cons_zero, List.set_cons_succ]
            refine takeInH 7 42 ?v59 rfl rfl (by kernel_rfl) (by kernel_rfl) (by kernel_rfl) (fun _ _ _ h => h) (by kernel_rfl) hS0 ?hy59 ?_
            case hy59 => (intro W hW; clear hW; go_simp; try rfl)
            simp only [Act.put, List.setIfInBounds_toArray, List.set_cons_zero, List.set_cons_succ]
            refine takeInH 8 43 ?v60 rfl rfl (by kernel_rfl) (by kernel_rfl) (by kernel_rfl) (fun _ _ _ h => h) (by kernel_rfl) hS0 ?hy60 ?_
            case hy60 => (intro W hW; clear hW; go_simp; try rfl)
            simp only [Act.put, List.setIfInBounds_toArray, List.set_cons_zero, List.set_cons_succ]
            refine takeInH 9 44 ?v61 rfl rfl (by kernel_rfl) (by kernel_rfl) (by kernel_rfl) (fun _ _ _ h => h) (by kernel_rfl) hS0 ?hy61 ?_
            case hy61 => (intro W hW; clear hW; go_simp; try rfl)
            simp only [Act.put, List.setIfInBounds_toArray, List.set_cons_zero, List.set_cons_succ]
            refine takeInH 10 45 ?v62 rfl rfl (by kernel_rfl) (by kernel_rfl) (by kernel_rfl) (fun _ _ _ h => h) (by kernel_rfl) hS0 ?hy62 ?_
            case hy62 => (intro W hW; have e0 := bcell hW c0; have e1 := bcell hW c1; clear hW; go_simp; try rfl)
            simp only [Act.put, List.setIfInBounds_toArray, List.set_cons_zero, List.set_cons_succ]
            refine wpAnyH_ready (rs := [11]) (by kernel_rfl) (by simp) ?_
            refine AllReadyH.cons rfl (fun K hK => ?_) AllReadyH.nil
            go_simp
            refine (Add10_bad pa nA ca A k m _ (HNA.out.below hS0) HNOA.out).mono ?_
            rintro e9 wn ⟨rfl, hb⟩
            refine hK.out _ _ ?hs63 (fun hS1 => ?_)
            case hs63 => exact bel_next hS0 hb
            clear hK K hb
            try simp only [Act.put, List.setIfInBounds_toArray, List.set_cons_zero, List.set_cons_succ]
            refine takeInH 12 34 ?v64 rfl rfl (by kernel_rfl) (by kernel_rfl) (by kernel_rfl) (fun _ _ _ h => h) (by kernel_rfl) hS1 ?hy64 ?_
            case hy64 => (intro W hW; clear hW; go_simp; try rfl)
            simp only [Act.put, List.setIfInBounds_toArray, List.set_cons_zero, List.set_cons_succ]
            refine takeInH 13 47 ?v65 rfl rfl (by kernel_rfl) (by kernel_rfl) (by kernel_rfl) (fun _ _ _ h => h) (by kernel_rfl) hS1 ?hy65 ?_
            case hy65 => (intro W hW; clear hW; go_simp; try rfl)
            simp only [Act.put, List.setIfInBounds_toArray, List.set_cons_zero, List.set_cons_succ]
            refine takeInH 14 48 ?v66 rfl rfl (by kernel_rfl) (by kernel_rfl) (by kernel_rfl) (fun _ _ _ h => h) (by kernel_rfl) hS1 ?hy66 ?_
            case hy66 => (intro W hW; clear hW; go_simp; try rfl)
            simp only [Act.put, List.setIfInBounds_toArray, List.set_cons_zero, List.set_cons_succ]
            refine takeInH 15 9 ?v67 rfl rfl (by kernel_rfl) (by kernel_rfl) (by kernel_rfl) (fun _ _ _ h => h) (by kernel_rfl) hS1 ?hy67 ?_
            case hy67 => (intro W hW; clear hW; go_simp; try rfl)
            simp only [Act.put, List.setIfInBounds_toArray, List.set_cons_zero, List.set_cons_succ]
            refine takeInH 16 10 ?v68 rfl rfl (by kernel_rfl) (by kernel_rfl) (by kernel_rfl) (fun _ _ _ h => h) (by kernel_rfl) hS1 ?hy68 ?_
            case hy68 => (intro W hW; clear hW; go_simp; try rfl)
            simp only [Act.put, List.setIfInBounds_toArray, List.set_cons_zero, List.set_cons_succ]
            refine wpAnyH_done (by kernel_rfl) ?_ _
            replace BBU := hide (bel_next BBU.out hS1)
            replace HNA := hide (HNA.out.below hS1)
            skip
            skip
            replace HNB := hide (HNB.out.below hS1)
            replace HNL := hide (HNL.out.below hS1)
            skip
            skip
            skip
            skip
            skip
            skip
            clear hS1 c0 c1
            by_cases hti : i < nt
            · obtain ⟨x, hxv, hx0, hx1⟩ : ∃ x : Int, (∃ bt offt, pt = some ⟨bt, offt, none⟩ ∧ w1.cell? ⟨bt, offt + i, none⟩ = some (.int .u8 x)) ∧ 0 ≤ x ∧ x < 256 := HTX.out i hti
              obtain ⟨bt, offt, rfl, ht0⟩ := hxv
              have t0 := bcell BBU.out ht0
              have hti1 : (i : Int) < (nt : Int) := by omega
              have hL0 : ¬ ((nL : Int) = 0) := by omega
              have hL1 : ¬ (nL = 0) := by omega
              obtain ⟨nn, hnn, hnL⟩ : ∃ nn : Nat, x % (nL : Int) = (nn : Int) ∧ nn < nL := by
                refine ⟨(x % (nL : Int)).toNat, ?_, ?_⟩
                · have := Int.emod_nonneg x hL0; omega
                · have := Int.emod_nonneg x hL0
                  have := Int.emod_lt_of_pos x (show (0 : Int) < (nL : Int) by omega)
                  omega
              have hnt : Int.tmod x (nL : Int) = (nn : Int) := by rw [Int.tmod_eq_emod_of_nonneg hx0]; exact hnn
              clear ht0
              obtain ⟨kl, ml, hxl, d0, d1⟩ := HNL.out.at nn (by omega)
              have HPM3 : Hid ((D ++ [(kl, ml)] ++ (L.take nn ++ L.drop (nn + 1))).Perm s) := (perm_take hxl).trans HPM.out
              have HTB2 := hide (HTB.out.step (kl, ml) (by have := HPM.out.length_eq; rw [List.length_append, HLEN.out] at this; omega))
              have hnn0 : (0 : Int) ≤ (nn : Int) := by omega
              have hnn1 : (nn : Int) < (nL : Int) := by omega
              have hnn2 : (nn : Int) ≤ (cl : Int) := by omega
              have hnn3 : (nn : Int) + 1 ≤ (nL : Int) := by omega
              have hnn4 : IntKind.i64.wrap ((nn : Int) + 1) = (nn : Int) + 1 := by rw [IntKind.wrap_i64]; omega
              have hnn5 : (0 : Int) ≤ (nn : Int) + 1 := by omega
              have hnn6 : ((nn : Int) + 1).toNat = nn + 1 := by omega
              clear hxl
              rcases hokb : okT (kl, ml) with _ | _
              · have HNOB : Hid ((mayT B && okT (kl, ml)) = false) := by unfold Hid; rw [hokb, Bool.and_false]
                have HTB3 : Hid (TA B (D ++ [(kl, ml)])) := by have := HTB2.out; unfold stepT at this; rw [hokb] at this; exact this
                clear hokb
                go_upto_region 14 with fail
                refine wp_region_held_drew (S := fun W => Below wn.heap.size wn W) (by kernel_rfl) ((Below.refl _ wn).drew) (fun hS0 => ?_)
                refine takeInH 0 65 ?v69 rfl rfl (by kernel_rfl) (by kernel_rfl) (by kernel_rfl) (fun _ _ _ h => h) (by kernel_rfl) hS0 ?hy69 ?_
                case hy69 => (intro W hW; clear hW; go_simp; try rfl)
                simp only [Act.put, List.setIfInBounds_toArray, List.set_cons_zero, List.set_cons_succ]
                refine takeInH 1 66 ?v70 rfl rfl (by kernel_rfl) (by kernel_rfl) (by kernel_rfl) (fun _ _ _ h => h) (by kernel_rfl) hS0 ?hy70 ?_
                case hy70 => (intro W hW; clear hW; go_simp; try rfl)
                simp only [Act.put, List.setIfInBounds_toArray, List.set_cons_zero, List.set_cons_succ]
                refine takeInH 2 67 ?v71 rfl rfl (by kernel_rfl) (by kernel_rfl) (by kernel_rfl) (fun _ _ _ h => h) (by kernel_rfl) hS0 ?hy71 ?_
                case hy71 => (intro W hW; clear hW; go_simp; try rfl)
                simp only [Act.put, List.setIfInBounds_toArray, List.set_cons_zero, List.set_cons_succ]
                refine takeInH 3 68 ?v72 rfl rfl (by kernel_rfl) (by kernel_rfl) (by kernel_rfl) (fun _ _ _ h => h) (by kernel_rfl) hS0 ?hy72 ?_
                case hy72 => (intro W hW; clear hW; go_simp; try rfl)
                simp only [Act.put, List.setIfInBounds_toArray, List.set_cons_zero, List.set_cons_succ]
                refine takeInH 4 69 ?v73 rfl rfl (by kernel_rfl) (by kernel_rfl) (by kernel_rfl) (fun _ _ _ h => h) (by kernel_rfl) hS0 ?hy73 ?_
                case hy73 => (intro W hW; clear hW; go_simp; try rfl)
                simp only [Act.put, List.setIfInBounds_toArray, List.set_cons_zero, List.set_cons_succ]
                refine takeInH 5 70 ?v74 rfl rfl (by kernel_rfl) (by kernel_rfl) (by kernel_rfl) (fun _ _ _ h => h) (by kernel_rfl) hS0 ?hy74 ?_
                case hy74 => (intro W hW; have e0 := bcell hW d0; have e1 := bcell hW d1; clear hW; go_simp; try rfl)
                simp only [Act.put, List.setIfInBounds_toArray, List.set_cons_zero, List.set_cons_succ]
                refine takeInH 6 71 ?v75 rfl rfl (by kernel_rfl) (by kernel_rfl) (by kernel_rfl) (fun _ _ _ h => h) (by kernel_rfl) hS0 ?hy75 ?_
                case hy75 => (intro W hW; clear hW; go_simp; try rfl)
                simp only [Act.put, List.setIfInBounds_toArray, List.set_cons_zero, List.set_cons_succ]
                refine takeInH 7 72 ?v76 rfl rfl (by kernel_rfl) (by kernel_rfl) (by kernel_rfl) (fun _ _ _ h => h) (by kernel_rfl) hS0 ?hy76 ?_
                case hy76 => (intro W hW; clear hW; go_simp; try rfl)
                simp only [Act.put, List.setIfInBounds_toArray, List.set_cons_zero, List.set_cons_succ]
                refine takeInH 8 73 ?v77 rfl rfl (by kernel_rfl) (by kernel_rfl) (by kernel_rfl) (fun _ _ _ h => h) (by kernel_rfl) hS0 ?hy77 ?_
                case hy77 => (intro W hW; clear hW; go_simp; try rfl)
                simp only [Act.put, List.setIfInBounds_toArray, List.set_cons_zero, List.set_cons_succ]
                refine takeInH 9 74 ?v78 rfl rfl (by kernel_rfl) (by kernel_rfl) (by kernel_rfl) (fun _ _ _ h => h) (by kernel_rfl) hS0 ?hy78 ?_
                case hy78 => (intro W hW; clear hW; go_simp; try rfl)
                simp only [Act.put, List.setIfInBounds_toArray, List.set_cons_zero, List.set_cons_succ]
                refine takeInH 10 75 ?v79 rfl rfl (by kernel_rfl) (by kernel_rfl) (by kernel_rfl) (fun _ _ _ h => h) (by kernel_rfl) hS0 ?hy79 ?_
                case hy79 => (intro W hW; have e0 := bcell hW d0; have e1 := bcell hW d1; clear hW; go_simp; try rfl)
                simp only [Act.put, List.setIfInBounds_toArray, List.set_cons_zero, List.set_cons_succ]
                refine wpAnyH_ready (rs := [11]) (by kernel_rfl) (by simp) ?_
                refine AllReadyH.cons rfl (fun K hK => ?_) AllReadyH.nil
                go_simp
                refine (Add10_bad pb nB cb B kl ml _ (HNB.out.below hS0) HNOB.out).mono ?_
                rintro e9 wn ⟨rfl, hb⟩
                refine hK.out _ _ ?hs80 (fun hS1 => ?_)
                case hs80 => exact bel_next hS0 hb
                clear hK K hb
                try simp only [Act.put, List.setIfInBounds_toArray, List.set_cons_zero, List.set_cons_succ]
                refine takeInH 12 64 ?v81 rfl rfl (by kernel_rfl) (by kernel_rfl) (by kernel_rfl) (fun _ _ _ h => h) (by kernel_rfl) hS1 ?hy81 ?_
                case hy81 => (intro W hW; clear hW; go_simp; try rfl)
                simp only [Act.put, List.setIfInBounds_toArray, List.set_cons_zero, List.set_cons_succ]
                refine takeInH 13 77 ?v82 rfl rfl (by kernel_rfl) (by kernel_rfl) (by kernel_rfl) (fun _ _ _ h => h) (by kernel_rfl) hS1 ?hy82 ?_
                case hy82 => (intro W hW; clear hW; go_simp; try rfl)
                simp only [Act.put, List.setIfInBounds_toArray, List.set_cons_zero, List.set_cons_succ]
                refine takeInH 14 78 ?v83 rfl rfl (by kernel_rfl) (by kernel_rfl) (by kernel_rfl) (fun _ _ _ h => h) (by kernel_rfl) hS1 ?hy83 ?_
                case hy83 => (intro W hW; clear hW; go_simp; try rfl)
                simp only [Act.put, List.setIfInBounds_toArray, List.set_cons_zero, List.set_cons_succ]
                refine takeInH 15 12 ?v84 rfl rfl (by kernel_rfl) (by kernel_rfl) (by kernel_rfl) (fun _ _ _ h => h) (by kernel_rfl) hS1 ?hy84 ?_
                case hy84 => (intro W hW; clear hW; go_simp; try rfl)
                simp only [Act.put, List.setIfInBounds_toArray, List.set_cons_zero, List.set_cons_succ]
                refine takeInH 16 13 ?v85 rfl rfl (by kernel_rfl) (by kernel_rfl) (by kernel_rfl) (fun _ _ _ h => h) (by kernel_rfl) hS1 ?hy85 ?_
                case hy85 => (intro W hW; clear hW; go_simp; try rfl)
                simp only [Act.put, List.setIfInBounds_toArray, List.set_cons_zero, List.set_cons_succ]
                refine wpAnyH_done (by kernel_rfl) ?_ _
                replace BBU := hide (bel_next BBU.out hS1)
                replace HNA := hide (HNA.out.below hS1)
                replace HNL := hide (HNL.out.below hS1)
                replace HNB := hide (HNB.out.below hS1)
                skip
                clear hS1 d0 d1
                generalize hww : wn = u at *
                clear hww
                go_upto_region 17 with fail
                refine wp_region_held_drew (S := fun W => Below u.heap.size u W) (by kernel_rfl) ((Below.refl _ u).drew) (fun hS0 => ?_)
                refine takeInH 1 83 ?v86 rfl rfl (by kernel_rfl) (by kernel_rfl) (by kernel_rfl) (fun _ _ _ h => h) (by kernel_rfl) hS0 ?hy86 ?_
                case hy86 => (intro W hW; clear hW; go_simp; try rfl)
                simp only [Act.put, List.setIfInBounds_toArray, List.set_cons_zero, List.set_cons_succ]
                refine takeInH 2 84 ?v87 rfl rfl (by kernel_rfl) (by kernel_rfl) (by kernel_rfl) (fun _ _ _ h => h) (by kernel_rfl) hS0 ?hy87 ?_
                case hy87 => (intro W hW; clear hW; go_simp; try rfl)
                simp only [Act.put, List.setIfInBounds_toArray, List.set_cons_zero, List.set_cons_succ]
                refine takeInH 3 85 ?v88 rfl rfl (by kernel_rfl) (by kernel_rfl) (by kernel_rfl) (fun _ _ _ h => h) (by kernel_rfl) hS0 ?hy88 ?_
                case hy88 => (intro W hW; clear hW; go_simp; try rfl)
                simp only [Act.put, List.setIfInBounds_toArray, List.set_cons_zero, List.set_cons_succ]
                refine takeInH 5 87 ?v89 rfl rfl (by kernel_rfl) (by kernel_rfl) (by kernel_rfl) (fun _ _ _ h => h) (by kernel_rfl) hS0 ?hy89 ?_
                case hy89 => (intro W hW; clear hW; go_simp; try rfl)
                simp only [Act.put, List.setIfInBounds_toArray, List.set_cons_zero, List.set_cons_succ]
                refine takeInH 6 88 ?v90 rfl rfl (by kernel_rfl) (by kernel_rfl) (by kernel_rfl) (fun _ _ _ h => h) (by kernel_rfl) hS0 ?hy90 ?_
                case hy90 => (intro W hW; clear hW; go_simp; try rfl)
                simp only [Act.put, List.setIfInBounds_toArray, List.set_cons_zero, List.set_cons_succ]
                refine takeInH 7 89 ?v91 rfl rfl (by kernel_rfl) (by kernel_rfl) (by kernel_rfl) (fun _ _ _ h => h) (by kernel_rfl) hS0 ?hy91 ?_
                case hy91 => (intro W hW; clear hW; go_simp; try rfl)
                simp only [Act.put, List.setIfInBounds_toArray, List.set_cons_zero, List.set_cons_succ]
                refine takeInH 8 90 ?v92 rfl rfl (by kernel_rfl) (by kernel_rfl) (by kernel_rfl) (fun _ _ _ h => h) (by kernel_rfl) hS0 ?hy92 ?_
                case hy92 => (intro W hW; clear hW; go_simp; try rfl)
                simp only [Act.put, List.setIfInBounds_toArray, List.set_cons_zero, List.set_cons_succ]
                refine wpAnyH_ready (rs := [0]) (by kernel_rfl) (by simp) ?_
                refine AllReadyH.cons rfl (fun K hK => ?_) AllReadyH.nil
                go_simp
                have BW : Below u.heap.size u (u.alloc (.cells #[] 36)).drew := (bel1 u (.cells #[] 36)).drew
                have OB := hide (show OwnR encC 2 36 u.heap.size (u.alloc (.cells #[] 36)).drew (.slice (some ⟨u.heap.size, 0, none⟩) 0 0) [] from (OwnR.made u u.heap.size u.heap.size rfl (Nat.le_refl _)).drew)
                generalize (u.alloc (.cells #[] 36)).drew = wb at OB BW ⊢
                refine hK.out _ _ ?hs93 (fun hS1 => ?_)
                case hs93 => exact BW
                clear hK K
                try simp only [Act.put, List.setIfInBounds_toArray, List.set_cons_zero, List.set_cons_succ]
                refine wpAnyH_ready (rs := [4]) (by kernel_rfl) (by simp) ?_
                refine AllReadyH.cons rfl (fun K hK => ?_) AllReadyH.nil
                rw [if_pos (by kernel_rfl)]
                refine append_rg _ _ 22 rfl Try.underlying22 Try.infoCel rfl (by decide) (by decide) encC_len encC_one u.heap.size _ [] (L.take nn) rfl OB.out (some ⟨bl0, offl, none⟩) nn cl rfl (fun h => by cases h) ((HNL.out.below hS1).head nn (by omega)) (by have := HLL2.out; rw [List.length_nil, List.length_take]; omega) hS1.size ?_
                intro v5 w5 ho5 hg5 hbel5
                have BS5 := hbel5 _ hS1
                rw [List.nil_append] at ho5
                have O5 := hide ho5
                clear ho5 hbel5 hg5
                change K (Act.put _ (some 86) _) _
                refine hK.out _ _ ?hs94 (fun hS2 => ?_)
                case hs94 => exact BS5
                clear hK K
                try simp only [Act.put, List.setIfInBounds_toArray, List.set_cons_zero, List.set_cons_succ]
                refine wpAnyH_ready (rs := [9]) (by kernel_rfl) (by simp) ?_
                refine AllReadyH.cons rfl (fun K hK => ?_) AllReadyH.nil
                rw [if_pos (by kernel_rfl)]
                refine append_rg _ _ 22 rfl Try.underlying22 Try.infoCel rfl (by decide) (by decide) encC_len encC_one u.heap.size _ (L.take nn) (L.drop (nn + 1)) rfl O5.out (if cl = nn + 1 then some ⟨bl0, offl, none⟩ else some ⟨bl0, offl + (nn + 1) * 2, none⟩) (nL - (nn + 1)) (cl - (nn + 1)) rfl (fun h => by split at h <;> cases h) ((HNL.out.below hS2).rest (nn + 1) (by omega) (by omega)) (by have := HLL2.out; rw [List.length_take, List.length_drop]; omega) hS2.size ?_
                intro v6 w6 ho6 hg6 hbel6
                have BS6 := hbel6 _ hS2
                obtain ⟨p6, c6, hv6, hn6, hc6⟩ := ho6.open encC_len
                have HN6 := hide hn6
                have HC6 := hide hc6
                clear ho6 hbel6 hg6 hn6 hc6
                change K (Act.put _ (some 91) _) _
                refine hK.out _ _ ?hs95 (fun hS3 => ?_)
                case hs95 => exact BS6
                clear hK K
                try simp only [Act.put, List.setIfInBounds_toArray, List.set_cons_zero, List.set_cons_succ]
                refine takeInH 10 7 ?v96 rfl rfl (by kernel_rfl) (by kernel_rfl) (by kernel_rfl) (fun _ _ _ h => h) (by kernel_rfl) hS3 ?hy96 ?_
                case hy96 => (intro W hW; clear hW; go_simp; try rfl)
                simp only [Act.put, List.setIfInBounds_toArray, List.set_cons_zero, List.set_cons_succ]
                refine wpAnyH_done (by kernel_rfl) ?_ _
                subst hv6
                go_wp2
                go_roundw
                case rel => exact ⟨i + 1, pa, ca, A, pb, cb, B, p6, c6, L.take nn ++ L.drop (nn + 1), D ++ [(kl, ml)], by omega, by go_num, (by rw [HLA.out]), (by rw [HLB.out]), (by first | (rw [List.length_append, List.length_take, List.length_drop]; done) | simp), (show Hid _ by rw [HLA.out]; exact HNA.out.below hS3), (show Hid _ by rw [HLB.out]; exact HNB.out.below hS3), HN6, HC6, (show Hid _ by rw [HLA.out]; exact HCA.out), (show Hid _ by rw [HLB.out]; exact HCB.out), HTA3, HTB3, HPM3, (show Hid _ by unfold Hid; rw [List.length_append, List.length_take, List.length_drop]; have := HLL.out; have := HLL2.out; omega), (show Hid _ from bel_next BBU.out hS3)⟩
                case measure => simp [intOf]; omega
              · have HOB := hide hokb
                have HTB3 : Hid (TA (addT B kl ml) (D ++ [(kl, ml)])) := by have := HTB2.out; unfold stepT at this; rw [if_pos hokb] at this; exact this
                have HMB : Hid (mayT (addT B kl ml) = true) := HTB3.out.may
                clear hokb
                go_upto_region 14 with fail
                refine wp_region_held_drew (S := fun W => Below wn.heap.size wn W) (by kernel_rfl) ((Below.refl _ wn).drew) (fun hS0 => ?_)
                refine takeInH 0 65 ?v97 rfl rfl (by kernel_rfl) (by kernel_rfl) (by kernel_rfl) (fun _ _ _ h => h) (by kernel_rfl) hS0 ?hy97 ?_
                case hy97 => (intro W hW; clear hW; go_simp; try rfl)
                simp only [Act.put, List.setIfInBounds_toArray, List.set_cons_zero, List.set_cons_succ]
                refine takeInH 1 66 ?v98 rfl rfl (by kernel_rfl) (by kernel_rfl) (by kernel_rfl) (fun _ _ _ h => h) (by kernel_rfl) hS0 ?hy98 ?_
                case hy98 => (intro W hW; clear hW; go_simp; try rfl)
                simp only [Act.put, List.setIfInBounds_toArray, List.set_cons_zero, List.set_cons_succ]
                refine takeInH 2 67 ?v99 rfl rfl (by kernel_rfl) (by kernel_rfl) (by kernel_rfl) (fun _ _ _ h => h) (by kernel_rfl) hS0 ?hy99 ?_
                case hy99 => (intro W hW; clear hW; go_simp; try rfl)
                simp only [Act.put, List.setIfInBounds_toArray, List.set_cons_zero, List.set_cons_succ]
                refine takeInH 3 68 ?v100 rfl rfl (by kernel_rfl) (by kernel_rfl) (by kernel_rfl) (fun _ _ _ h => h) (by kernel_rfl) hS0 ?hy100 ?_
                case hy100 => (intro W hW; clear hW; go_simp; try rfl)
                simp only [Act.put, List.setIfInBounds_toArray, List.set_cons_zero, List.set_cons_succ]
                refine takeInH 4 69 ?v101 rfl rfl (by kernel_rfl) (by kernel_rfl) (by kernel_rfl) (fun _ _ _ h => h) (by kernel_rfl) hS0 ?hy101 ?_
                case hy101 => (intro W hW; clear hW; go_simp; try rfl)
                simp only [Act.put, List.setIfInBounds_toArray, List.set_cons_zero, List.set_cons_succ]
                refine takeInH 5 70 ?v102 rfl rfl (by kernel_rfl) (by kernel_rfl) (by kernel_rfl) (fun _ _ _ h => h) (by kernel_rfl) hS0 ?hy102 ?_
                case hy102 => (intro W hW; have e0 := bcell hW d0; have e1 := bcell hW d1; clear hW; go_simp; try rfl)
                simp only [Act.put, List.setIfInBounds_toArray, List.set_cons_zero, List.set_cons_succ]
                refine takeInH 6 71 ?v103 rfl rfl (by kernel_rfl) (by kernel_rfl) (by kernel_rfl) (fun _ _ _ h => h) (by kernel_rfl) hS0 ?hy103 ?_
                case hy103 => (intro W hW; clear hW; go_simp; try rfl)
                simp only [Act.put, List.setIfInBounds_toArray, List.set_cons_zero, List.set_cons_succ]
                refine takeInH 7 72 ?v104 rfl rfl (by kernel_rfl) (by kernel_rfl) (by kernel_rfl) (fun _ _ _ h => h) (by kernel_rfl) hS0 ?hy104 ?_
                case hy104 => (intro W hW; clear hW; go_simp; try rfl)
                simp only [Act.put, List.setIfInBounds_toArray, List.set_cons_zero, List.set_cons_succ]
                refine takeInH 8 73 ?v105 rfl rfl (by kernel_rfl) (by kernel_rfl) (by kernel_rfl) (fun _ _ _ h => h) (by kernel_rfl) hS0 ?hy105 ?_
                case hy105 => (intro W hW; clear hW; go_simp; try rfl)
                simp only [Act.put, List.setIfInBounds_toArray, List.set_cons_zero, List.set_cons_succ]
                refine takeInH 9 74 ?v106 rfl rfl (by kernel_rfl) (by kernel_rfl) (by kernel_rfl) (fun _ _ _ h => h) (by kernel_rfl) hS0 ?hy106 ?_
                case hy106 => (intro W hW; clear hW; go_simp; try rfl)
                simp only [Act.put, List.setIfInBounds_toArray, List.set_cons_zero, List.set_cons_succ]
                refine takeInH 10 75 ?v107 rfl rfl (by kernel_rfl) (by kernel_rfl) (by kernel_rfl) (fun _ _ _ h => h) (by kernel_rfl) hS0 ?hy107 ?_
                case hy107 => (intro W hW; have e0 := bcell hW d0; have e1 := bcell hW d1; clear hW; go_simp; try rfl)
                simp only [Act.put, List.setIfInBounds_toArray, List.set_cons_zero, List.set_cons_succ]
                refine wpAnyH_ready (rs := [11]) (by kernel_rfl) (by simp) ?_
                refine AllReadyH.cons rfl (fun K hK => ?_) AllReadyH.nil
                go_simp
                refine (Add10_good pb nB cb B kl ml _ (HNB.out.below hS0) HTB.out.may HOB.out HMB.out HCB.out).mono ?_
                rintro e9 wn ⟨p9, c9, rfl, hn9, hc9, hb⟩
                have HN9 := hide hn9
                have HC9 := hide hc9
                clear hn9 hc9
                refine hK.out _ _ ?hs108 (fun hS1 => ?_)
                case hs108 => exact bel_next hS0 hb
                clear hK K hb
                try simp only [Act.put, List.setIfInBounds_toArray, List.set_cons_zero, List.set_cons_succ]
                refine takeInH 12 64 ?v109 rfl rfl (by kernel_rfl) (by kernel_rfl) (by kernel_rfl) (fun _ _ _ h => h) (by kernel_rfl) hS1 ?hy109 ?_
                case hy109 => (intro W hW; clear hW; go_simp; try rfl)
                simp only [Act.put, List.setIfInBounds_toArray, List.set_cons_zero, List.set_cons_succ]
                refine takeInH 13 77 ?v110 rfl rfl (by kernel_rfl) (by kernel_rfl) (by kernel_rfl) (fun _ _ _ h => h) (by kernel_rfl) hS1 ?hy110 ?_
                case hy110 => (intro W hW; clear hW; go_simp; try rfl)
                simp only [Act.put, List.setIfInBounds_toArray, List.set_cons_zero, List.set_cons_succ]
                refine takeInH 14 78 ?v111 rfl rfl (by kernel_rfl) (by kernel_rfl) (by kernel_rfl) (fun _ _ _ h => h) (by kernel_rfl) hS1 ?hy111 ?_
                case hy111 => (intro W hW; clear hW; go_simp; try rfl)
                simp only [Act.put, List.setIfInBounds_toArray, List.set_cons_zero, List.set_cons_succ]
                refine takeInH 15 12 ?v112 rfl rfl (by kernel_rfl) (by kernel_rfl) (by kernel_rfl) (fun _ _ _ h => h) (by kernel_rfl) hS1 ?hy112 ?_
                case hy112 => (intro W hW; clear hW; go_simp; try rfl)
                simp only [Act.put, List.setIfInBounds_toArray, List.set_cons_zero, List.set_cons_succ]
                refine takeInH 16 13 ?v113 rfl rfl (by kernel_rfl) (by kernel_rfl) (by kernel_rfl) (fun _ _ _ h => h) (by kernel_rfl) hS1 ?hy113 ?_
                case hy113 => (intro W hW; clear hW; go_simp; try rfl)
                simp only [Act.put, List.setIfInBounds_toArray, List.set_cons_zero, List.set_cons_succ]
                refine wpAnyH_done (by kernel_rfl) ?_ _
                replace BBU := hide (bel_next BBU.out hS1)
                replace HNA := hide (HNA.out.below hS1)
                replace HNL := hide (HNL.out.below hS1)
                replace HNB := HN9
                replace HCB := HC9
                clear hS1 d0 d1
                generalize hww : wn = u at *
                clear hww
                go_upto_region 17 with fail
                refine wp_region_held_drew (S := fun W => Below u.heap.size u W) (by kernel_rfl) ((Below.refl _ u).drew) (fun hS0 => ?_)
                refine takeInH 1 83 ?v114 rfl rfl (by kernel_rfl) (by kernel_rfl) (by kernel_rfl) (fun _ _ _ h => h) (by kernel_rfl) hS0 ?hy114 ?_
                case hy114 => (intro W hW; clear hW; go_simp; try rfl)
                simp only [Act.put, List.setIfInBounds_toArray, List.set_cons_zero, List.set_cons_succ]
                refine takeInH 2 84 ?v115 rfl rfl (by kernel_rfl) (by kernel_rfl) (by kernel_rfl) (fun _ _ _ h => h) (by kernel_rfl) hS0 ?hy115 ?_
                case hy115 => (intro W hW; clear hW; go_simp; try rfl)
                simp only [Act.put, List.setIfInBounds_toArray, List.set_cons_zero, List.set_cons_succ]
                refine takeInH 3 85 ?v116 rfl rfl (by kernel_rfl) (by kernel_rfl) (by kernel_rfl) (fun _ _ _ h => h) (by kernel_rfl) hS0 ?hy116 ?_
                case hy116 => (intro W hW; clear hW; go_simp; try rfl)
                simp only [Act.put, List.setIfInBounds_toArray, List.set_cons_zero, List.set_cons_succ]
                refine takeInH 5 87 ?v117 rfl rfl (by kernel_rfl) (by kernel_rfl) (by kernel_rfl) (fun _ _ _ h => h) (by kernel_rfl) hS0 ?hy117 ?_
                case hy117 => (intro W hW; clear hW; go_simp; try rfl)
                simp only [Act.put, List.setIfInBounds_toArray, List.set_cons_zero, List.set_cons_succ]
                refine takeInH 6 88 ?v118 rfl rfl (by kernel_rfl) (by kernel_rfl) (by kernel_rfl) (fun _ _ _ h => h) (by kernel_rfl) hS0 ?hy118 ?_
                case hy118 => (intro W hW; clear hW; go_simp; try rfl)
                simp only [Act.put, List.setIfInBounds_toArray, List.set_cons_zero, List.set_cons_succ]
                refine takeInH 7 89 ?v119 rfl rfl (by kernel_rfl) (by kernel_rfl) (by kernel_rfl) (fun _ _ _ h => h) (by kernel_rfl) hS0 ?hy119 ?_
                case hy119 => (intro W hW; clear hW; go_simp; try rfl)
                simp only [Act.put, List.setIfInBounds_toArray, List.set_cons_zero, List.set_cons_succ]
                refine takeInH 8 90 ?v120 rfl rfl (by kernel_rfl) (by kernel_rfl) (by kernel_rfl) (fun _ _ _ h => h) (by kernel_rfl) hS0 ?hy120 ?_
                case hy120 => (intro W hW; clear hW; go_simp; try rfl)
                simp only [Act.put, List.setIfInBounds_toArray, List.set_cons_zero, List.set_cons_succ]
                refine wpAnyH_ready (rs := [0]) (by kernel_rfl) (by simp) ?_
                refine AllReadyH.cons rfl (fun K hK => ?_) AllReadyH.nil
                go_simp
                have BW : Below u.heap.size u (u.alloc (.cells #[] 36)).drew := (bel1 u (.cells #[] 36)).drew
                have OB := hide (show OwnR encC 2 36 u.heap.size (u.alloc (.cells #[] 36)).drew (.slice (some ⟨u.heap.size, 0, none⟩) 0 0) [] from (OwnR.made u u.heap.size u.heap.size rfl (Nat.le_refl _)).drew)
                generalize (u.alloc (.cells #[] 36)).drew = wb at OB BW ⊢
                refine hK.out _ _ ?hs121 (fun hS1 => ?_)
                case hs121 => exact BW
                clear hK K
                try simp only [Act.put, List.setIfInBounds_toArray, List.set_cons_zero, List.set_cons_succ]
                refine wpAnyH_ready (rs := [4]) (by kernel_rfl) (by simp) ?_
                refine AllReadyH.cons rfl (fun K hK => ?_) AllReadyH.nil
                rw [if_pos (by kernel_rfl)]
                refine append_rg _ _ 22 rfl Try.underlying22 Try.infoCel rfl (by decide) (by decide) encC_len encC_one u.heap.size _ [] (L.take nn) rfl OB.out (some ⟨bl0, offl, none⟩) nn cl rfl (fun h => by cases h) ((HNL.out.below hS1).head nn (by omega)) (by have := HLL2.out; rw [List.length_nil, List.length_take]; omega) hS1.size ?_
                intro v5 w5 ho5 hg5 hbel5
                have BS5 := hbel5 _ hS1
                rw [List.nil_append] at ho5
                have O5 := hide ho5
                clear ho5 hbel5 hg5
                change K (Act.put _ (some 86) _) _
                refine hK.out _ _ ?hs122 (fun hS2 => ?_)
                case hs122 => exact BS5
                clear hK K
                try simp only [Act.put, List.setIfInBounds_toArray, List.set_cons_zero, List.set_cons_succ]
                refine wpAnyH_ready (rs := [9]) (by kernel_rfl) (by simp) ?_
                refine AllReadyH.cons rfl (fun K hK => ?_) AllReadyH.nil
                rw [if_pos (by kernel_rfl)]
                refine append_rg _ _ 22 rfl Try.underlying22 Try.infoCel rfl (by decide) (by decide) encC_len encC_one u.heap.size _ (L.take nn) (L.drop (nn + 1)) rfl O5.out (if cl = nn + 1 then some ⟨bl0, offl, none⟩ else some ⟨bl0, offl + (nn + 1) * 2, none⟩) (nL - (nn + 1)) (cl - (nn + 1)) rfl (fun h => by split at h <;> cases h) ((HNL.out.below hS2).rest (nn + 1) (by omega) (by omega)) (by have := HLL2.out; rw [List.length_take, List.length_drop]; omega) hS2.size ?_
                intro v6 w6 ho6 hg6 hbel6
                have BS6 := hbel6 _ hS2
                obtain ⟨p6, c6, hv6, hn6, hc6⟩ := ho6.open encC_len
                have HN6 := hide hn6
                have HC6 := hide hc6
                clear ho6 hbel6 hg6 hn6 hc6
                change K (Act.put _ (some 91) _) _
                refine hK.out _ _ ?hs123 (fun hS3 => ?_)
                case hs123 => exact BS6
                clear hK K
                try simp only [Act.put, List.setIfInBounds_toArray, List.set_cons_zero, List.set_cons_succ]
                refine takeInH 10 7 ?v124 rfl rfl (by kernel_rfl) (by kernel_rfl) (by kernel_rfl) (fun _ _ _ h => h) (by kernel_rfl) hS3 ?hy124 ?_
                case hy124 => (intro W hW; clear hW; go_simp; try rfl)
                simp only [Act.put, List.setIfInBounds_toArray, List.set_cons_zero, List.set_cons_succ]
                refine wpAnyH_done (by kernel_rfl) ?_ _
                subst hv6
                go_wp2
                go_roundw
                case rel => exact ⟨i + 1, pa, ca, A, p9, c9, (addT B kl ml), p6, c6, L.take nn ++ L.drop (nn + 1), D ++ [(kl, ml)], by omega, by go_num, (by rw [HLA.out]), rfl, (by first | (rw [List.length_append, List.length_take, List.length_drop]; done) | simp), (show Hid _ by rw [HLA.out]; exact HNA.out.below hS3), (show Hid _ from HNB.out.below hS3), HN6, HC6, (show Hid _ by rw [HLA.out]; exact HCA.out), (show Hid _ from HCB.out), HTA3, HTB3, HPM3, (show Hid _ by unfold Hid; rw [List.length_append, List.length_take, List.length_drop]; have := HLL.out; have := HLL2.out; omega), (show Hid _ from bel_next BBU.out hS3)⟩
                case measure => simp [intOf]; omega
            · have hti1 : ¬ ((i : Int) < (nt : Int)) := by omega
              obtain ⟨nn, hnn, hnL⟩ : ∃ nn : Nat, (0 : Nat) = nn ∧ nn < nL := ⟨0, rfl, by omega⟩
              subst hnn
              obtain ⟨kl, ml, hxl, d0, d1⟩ := HNL.out.at 0 (by omega)
              have HPM3 : Hid ((D ++ [(kl, ml)] ++ (L.take 0 ++ L.drop (0 + 1))).Perm s) := (perm_take hxl).trans HPM.out
              have HTB2 := hide (HTB.out.step (kl, ml) (by have := HPM.out.length_eq; rw [List.length_append, HLEN.out] at this; omega))
              have hnn0 : (0 : Int) ≤ ((0 : Nat) : Int) := by omega
              have hnn1 : ((0 : Nat) : Int) < (nL : Int) := by omega
              have hnn2 : ((0 : Nat) : Int) ≤ (cl : Int) := by omega
              have hnn3 : ((0 : Nat) : Int) + 1 ≤ (nL : Int) := by omega
              have hnn4 : IntKind.i64.wrap (((0 : Nat) : Int) + 1) = ((0 : Nat) : Int) + 1 := by rw [IntKind.wrap_i64]; omega
              have hnn5 : (0 : Int) ≤ ((0 : Nat) : Int) + 1 := by omega
              have hnn6 : (((0 : Nat) : Int) + 1).toNat = 0 + 1 := by omega
              clear hxl
              simp only [Nat.zero_mul, Nat.add_zero] at d0 d1
              have hz1 : (0 : Int) ≤ (cl : Int) := by omega
              have hz2 : (0 : Int) < (nL : Int) := by omega
              have hz3 : (1 : Int) ≤ (nL : Int) := by omega
              have hz4 : (1 : Int) ≤ (cl : Int) := by omega
              have hz5 : IntKind.i64.wrap 1 = 1 := by decide
              rcases hokb : okT (kl, ml) with _ | _
              · have HNOB : Hid ((mayT B && okT (kl, ml)) = false) := by unfold Hid; rw [hokb, Bool.and_false]
                have HTB3 : Hid (TA B (D ++ [(kl, ml)])) := by have := HTB2.out; unfold stepT at this; rw [hokb] at this; exact this
                clear hokb
                go_upto_region 14 with fail
                refine wp_region_held_drew (S := fun W => Below wn.heap.size wn W) (by kernel_rfl) ((Below.refl _ wn).drew) (fun hS0 => ?_)
                refine takeInH 0 65 ?v125 rfl rfl (by kernel_rfl) (by kernel_rfl) (by kernel_rfl) (fun _ _ _ h => h) (by kernel_rfl) hS0 ?hy125 ?_
                case hy125 => (intro W hW; clear hW; go_simp; try rfl)
                simp only [Act.put, List.setIfInBounds_toArray, List.set_cons_zero, List.set_cons_succ]
                refine takeInH 1 66 ?v126 rfl rfl (by kernel_rfl) (by kernel_rfl) (by kernel_rfl) (fun _ _ _ h => h) (by kernel_rfl) hS0 ?hy126 ?_
                case hy126 => (intro W hW; clear hW; go_simp; try rfl)
                simp only [Act.put, List.setIfInBounds_toArray, List.set_cons_zero, List.set_cons_succ]
                refine takeInH 2 67 ?v127 rfl rfl (by kernel_rfl) (by kernel_rfl) (by kernel_rfl) (fun _ _ _ h => h) (by kernel_rfl) hS0 ?hy127 ?_
                case hy127 => (intro W hW; clear hW; go_simp; try rfl)
                simp only [Act.put, List.setIfInBounds_toArray, List.set_cons_zero, List.set_cons_succ]
                refine takeInH 3 68 ?v128 rfl rfl (by kernel_rfl) (by kernel_rfl) (by kernel_rfl) (fun _ _ _ h => h) (by kernel_rfl) hS0 ?hy128 ?_
                case hy128 => (intro W hW; clear hW; go_simp; try rfl)
                simp only [Act.put, List.setIfInBounds_toArray, List.set_cons_zero, List.set_cons_succ]
                refine takeInH 4 69 ?v129 rfl rfl (by kernel_rfl) (by kernel_rfl) (by kernel_rfl) (fun _ _ _ h => h) (by kernel_rfl) hS0 ?hy129 ?_
                case hy129 => (intro W hW; clear hW; go_simp; try rfl)
                simp only [Act.put, List.setIfInBounds_toArray, List.set_cons_zero, List.set_cons_succ]
                refine takeInH 5 70 ?v130 rfl rfl (by kernel_rfl) (by kernel_rfl) (by kernel_rfl) (fun _ _ _ h => h) (by kernel_rfl) hS0 ?hy130 ?_
                case hy130 => (intro W hW; have e0 := bcell hW d0; have e1 := bcell hW d1; clear hW; go_simp; try rfl)
                simp only [Act.put, List.setIfInBounds_toArray, List.set_cons_zero, List.set_cons_succ]
                refine takeInH 6 71 ?v131 rfl rfl (by kernel_rfl) (by kernel_rfl) (by kernel_rfl) (fun _ _ _ h => h) (by kernel_rfl) hS0 ?hy131 ?_
                case hy131 => (intro W hW; clear hW; go_simp; try rfl)
                simp only [Act.put, List.setIfInBounds_toArray, List.set_cons_zero, List.set_cons_succ]
                refine takeInH 7 72 ?v132 rfl rfl (by kernel_rfl) (by kernel_rfl) (by kernel_rfl) (fun _ _ _ h => h) (by kernel_rfl) hS0 ?hy132 ?_
                case hy132 => (intro W hW; clear hW; go_simp; try rfl)
                simp only [Act.put, List.setIfInBounds_toArray, List.set_cons_zero, List.set_cons_succ]
                refine takeInH 8 73 ?v133 rfl rfl (by kernel_rfl) (by kernel_rfl) (by kernel_rfl) (fun _ _ _ h => h) (by kernel_rfl) hS0 ?hy133 ?_
                case hy133 => (intro W hW; clear hW; go_simp; try rfl)
                simp only [Act.put, List.setIfInBounds_toArray, List.set_cons_zero, List.set_cons_succ]
                refine takeInH 9 74 ?v134 rfl rfl (by kernel_rfl) (by kernel_rfl) (by kernel_rfl) (fun _ _ _ h => h) (by kernel_rfl) hS0 ?hy134 ?_
                case hy134 => (intro W hW; clear hW; go_simp; try rfl)
                simp only [Act.put, List.setIfInBounds_toArray, List.set_cons_zero, List.set_cons_succ]
                refine takeInH 10 75 ?v135 rfl rfl (by kernel_rfl) (by kernel_rfl) (by kernel_rfl) (fun _ _ _ h => h) (by kernel_rfl) hS0 ?hy135 ?_
                case hy135 => (intro W hW; have e0 := bcell hW d0; have e1 := bcell hW d1; clear hW; go_simp; try rfl)
                simp only [Act.put, List.setIfInBounds_toArray, List.set_cons_zero, List.set_cons_succ]
                refine wpAnyH_ready (rs := [11]) (by kernel_rfl) (by simp) ?_
                refine AllReadyH.cons rfl (fun K hK => ?_) AllReadyH.nil
                go_simp
                refine (Add10_bad pb nB cb B kl ml _ (HNB.out.below hS0) HNOB.out).mono ?_
                rintro e9 wn ⟨rfl, hb⟩
                refine hK.out _ _ ?hs136 (fun hS1 => ?_)
                case hs136 => exact bel_next hS0 hb
                clear hK K hb
                try simp only [Act.put, List.setIfInBounds_toArray, List.set_cons_zero, List.set_cons_succ]
                refine takeInH 12 64 ?v137 rfl rfl (by kernel_rfl) (by kernel_rfl) (by kernel_rfl) (fun _ _ _ h => h) (by kernel_rfl) hS1 ?hy137 ?_
                case hy137 => (intro W hW; clear hW; go_simp; try rfl)
                simp only [Act.put, List.setIfInBounds_toArray, List.set_cons_zero, List.set_cons_succ]
                refine takeInH 13 77 ?v138 rfl rfl (by kernel_rfl) (by kernel_rfl) (by kernel_rfl) (fun _ _ _ h => h) (by kernel_rfl) hS1 ?hy138 ?_
                case hy138 => (intro W hW; clear hW; go_simp; try rfl)
                simp only [Act.put, List.setIfInBounds_toArray, List.set_cons_zero, List.set_cons_succ]
                refine takeInH 14 78 ?v139 rfl rfl (by kernel_rfl) (by kernel_rfl) (by kernel_rfl) (fun _ _ _ h => h) (by kernel_rfl) hS1 ?hy139 ?_
                case hy139 => (intro W hW; clear hW; go_simp; try rfl)
                simp only [Act.put, List.setIfInBounds_toArray, List.set_cons_zero, List.set_cons_succ]
                refine takeInH 15 12 ?v140 rfl rfl (by kernel_rfl) (by kernel_rfl) (by kernel_rfl) (fun _ _ _ h => h) (by kernel_rfl) hS1 ?hy140 ?_
                case hy140 => (intro W hW; clear hW; go_simp; try rfl)
                simp only [Act.put, List.setIfInBounds_toArray, List.set_cons_zero, List.set_cons_succ]
                refine takeInH 16 13 ?v141 rfl rfl (by kernel_rfl) (by kernel_rfl) (by kernel_rfl) (fun _ _ _ h => h) (by kernel_rfl) hS1 ?hy141 ?_
                case hy141 => (intro W hW; clear hW; go_simp; try rfl)
                simp only [Act.put, List.setIfInBounds_toArray, List.set_cons_zero, List.set_cons_succ]
                refine wpAnyH_done (by kernel_rfl) ?_ _
                replace BBU := hide (bel_next BBU.out hS1)
                replace HNA := hide (HNA.out.below hS1)
                replace HNL := hide (HNL.out.below hS1)
                replace HNB := hide (HNB.out.below hS1)
                skip
                clear hS1 d0 d1
                generalize hww : wn = u at *
                clear hww
                go_upto_region 17 with fail
                refine wp_region_held_drew (S := fun W => Below u.heap.size u W) (by kernel_rfl) ((Below.refl _ u).drew) (fun hS0 => ?_)
                refine takeInH 1 83 ?v142 rfl rfl (by kernel_rfl) (by kernel_rfl) (by kernel_rfl) (fun _ _ _ h => h) (by kernel_rfl) hS0 ?hy142 ?_
                case hy142 => (intro W hW; clear hW; go_simp; try rfl)
                simp only [Act.put, List.setIfInBounds_toArray, List.set_cons_zero, List.set_cons_succ]
                refine takeInH 2 84 ?v143 rfl rfl (by kernel_rfl) (by kernel_rfl) (by kernel_rfl) (fun _ _ _ h => h) (by kernel_rfl) hS0 ?hy143 ?_
                case hy143 => (intro W hW; clear hW; go_simp; try rfl)
                simp only [Act.put, List.setIfInBounds_toArray, List.set_cons_zero, List.set_cons_succ]
                refine takeInH 3 85 ?v144 rfl rfl (by kernel_rfl) (by kernel_rfl) (by kernel_rfl) (fun _ _ _ h => h) (by kernel_rfl) hS0 ?hy144 ?_
                case hy144 => (intro W hW; clear hW; go_simp; try rfl)
                simp only [Act.put, List.setIfInBounds_toArray, List.set_cons_zero, List.set_cons_succ]
                refine takeInH 5 87 ?v145 rfl rfl (by kernel_rfl) (by kernel_rfl) (by kernel_rfl) (fun _ _ _ h => h) (by kernel_rfl) hS0 ?hy145 ?_
                case hy145 => (intro W hW; clear hW; go_simp; try rfl)
                simp only [Act.put, List.setIfInBounds_toArray, List.set_cons_zero, List.set_cons_succ]
                refine takeInH 6 88 ?v146 rfl rfl (by kernel_rfl) (by kernel_rfl) (by kernel_rfl) (fun _ _ _ h => h) (by kernel_rfl) hS0 ?hy146 ?_
                case hy146 => (intro W hW; clear hW; go_simp; try rfl)
                simp only [Act.put, List.setIfInBounds_toArray, List.set_cons_zero, List.set_cons_succ]
                refine takeInH 7 89 ?v147 rfl rfl (by kernel_rfl) (by kernel_rfl) (by kernel_rfl) (fun _ _ _ h => h) (by kernel_rfl) hS0 ?hy147 ?_
                case hy147 => (intro W hW; clear hW; go_simp; try rfl)
                simp only [Act.put, List.setIfInBounds_toArray, List.set_cons_zero, List.set_cons_succ]
                refine takeInH 8 90 ?v148 rfl rfl (by kernel_rfl) (by kernel_rfl) (by kernel_rfl) (fun _ _ _ h => h) (by kernel_rfl) hS0 ?hy148 ?_
                case hy148 => (intro W hW; clear hW; go_simp; try rfl)
                simp only [Act.put, List.setIfInBounds_toArray, List.set_cons_zero, List.set_cons_succ]
                refine wpAnyH_ready (rs := [0]) (by kernel_rfl) (by simp) ?_
                refine AllReadyH.cons rfl (fun K hK => ?_) AllReadyH.nil
                go_simp
                have BW : Below u.heap.size u (u.alloc (.cells #[] 36)).drew := (bel1 u (.cells #[] 36)).drew
                have OB := hide (show OwnR encC 2 36 u.heap.size (u.alloc (.cells #[] 36)).drew (.slice (some ⟨u.heap.size, 0, none⟩) 0 0) [] from (OwnR.made u u.heap.size u.heap.size rfl (Nat.le_refl _)).drew)
                generalize (u.alloc (.cells #[] 36)).drew = wb at OB BW ⊢
                refine hK.out _ _ ?hs149 (fun hS1 => ?_)
                case hs149 => exact BW
                clear hK K
                try simp only [Act.put, List.setIfInBounds_toArray, List.set_cons_zero, List.set_cons_succ]
                refine wpAnyH_ready (rs := [4]) (by kernel_rfl) (by simp) ?_
                refine AllReadyH.cons rfl (fun K hK => ?_) AllReadyH.nil
                rw [if_pos (by kernel_rfl)]
                refine append_rg _ _ 22 rfl Try.underlying22 Try.infoCel rfl (by decide) (by decide) encC_len encC_one u.heap.size _ [] (L.take 0) rfl OB.out (some ⟨bl0, offl, none⟩) 0 cl rfl (fun h => by cases h) ((HNL.out.below hS1).head 0 (by omega)) (by have := HLL2.out; rw [List.length_nil, List.length_take]; omega) hS1.size ?_
                intro v5 w5 ho5 hg5 hbel5
                have BS5 := hbel5 _ hS1
                rw [List.nil_append] at ho5
                have O5 := hide ho5
                clear ho5 hbel5 hg5
                change K (Act.put _ (some 86) _) _
                refine hK.out _ _ ?hs150 (fun hS2 => ?_)
                case hs150 => exact BS5
                clear hK K
                try simp only [Act.put, List.setIfInBounds_toArray, List.set_cons_zero, List.set_cons_succ]
                refine wpAnyH_ready (rs := [9]) (by kernel_rfl) (by simp) ?_
                refine AllReadyH.cons rfl (fun K hK => ?_) AllReadyH.nil
                rw [if_pos (by kernel_rfl)]
                refine append_rg _ _ 22 rfl Try.underlying22 Try.infoCel rfl (by decide) (by decide) encC_len encC_one u.heap.size _ (L.take 0) (L.drop (0 + 1)) rfl O5.out (if cl = 0 + 1 then some ⟨bl0, offl, none⟩ else some ⟨bl0, offl + (0 + 1) * 2, none⟩) (nL - (0 + 1)) (cl - (0 + 1)) rfl (fun h => by split at h <;> cases h) ((HNL.out.below hS2).rest (0 + 1) (by omega) (by omega)) (by have := HLL2.out; rw [List.length_take, List.length_drop]; omega) hS2.size ?_
                intro v6 w6 ho6 hg6 hbel6
                have BS6 := hbel6 _ hS2
                obtain ⟨p6, c6, hv6, hn6, hc6⟩ := ho6.open encC_len
                have HN6 := hide hn6
                have HC6 := hide hc6
                clear ho6 hbel6 hg6 hn6 hc6
                change K (Act.put _ (some 91) _) _
                refine hK.out _ _ ?hs151 (fun hS3 => ?_)
                case hs151 => exact BS6
                clear hK K
                try simp only [Act.put, List.setIfInBounds_toArray, List.set_cons_zero, List.set_cons_succ]
                refine takeInH 10 7 ?v152 rfl rfl (by kernel_rfl) (by kernel_rfl) (by kernel_rfl) (fun _ _ _ h => h) (by kernel_rfl) hS3 ?hy152 ?_
                case hy152 => (intro W hW; clear hW; go_simp; try rfl)
                simp only [Act.put, List.setIfInBounds_toArray, List.set_cons_zero, List.set_cons_succ]
                refine wpAnyH_done (by kernel_rfl) ?_ _
                subst hv6
                go_wp2
                go_roundw
                case rel => exact ⟨i + 1, pa, ca, A, pb, cb, B, p6, c6, L.take 0 ++ L.drop (0 + 1), D ++ [(kl, ml)], by omega, by go_num, (by rw [HLA.out]), (by rw [HLB.out]), (by first | (rw [List.length_append, List.length_take, List.length_drop]; done) | simp), (show Hid _ by rw [HLA.out]; exact HNA.out.below hS3), (show Hid _ by rw [HLB.out]; exact HNB.out.below hS3), HN6, HC6, (show Hid _ by rw [HLA.out]; exact HCA.out), (show Hid _ by rw [HLB.out]; exact HCB.out), HTA3, HTB3, HPM3, (show Hid _ by unfold Hid; rw [List.length_append, List.length_take, List.length_drop]; have := HLL.out; have := HLL2.out; omega), (show Hid _ from bel_next BBU.out hS3)⟩
                case measure => simp [intOf]; omega
              · have HOB := hide hokb
                have HTB3 : Hid (TA (addT B kl ml) (D ++ [(kl, ml)])) := by have := HTB2.out; unfold stepT at this; rw [if_pos hokb] at this; exact this
                have HMB : Hid (mayT (addT B kl ml) = true) := HTB3.out.may
                clear hokb
                go_upto_region 14 with fail
                refine wp_region_held_drew (S := fun W => Below wn.heap.size wn W) (by kernel_rfl) ((Below.refl _ wn).drew) (fun hS0 => ?_)
                refine takeInH 0 65 ?v153 rfl rfl (by kernel_rfl) (by kernel_rfl) (by kernel_rfl) (fun _ _ _ h => h) (by kernel_rfl) hS0 ?hy153 ?_
                case hy153 => (intro W hW; clear hW; go_simp; try rfl)
                simp only [Act.put, List.setIfInBounds_toArray, List.set_cons_zero, List.set_cons_succ]
                refine takeInH 1 66 ?v154 rfl rfl (by kernel_rfl) (by kernel_rfl) (by kernel_rfl) (fun _ _ _ h => h) (by kernel_rfl) hS0 ?hy154 ?_
                case hy154 => (intro W hW; clear hW; go_simp; try rfl)
                simp only [Act.put, List.setIfInBounds_toArray, List.set_cons_zero, List.set_cons_succ]
                refine takeInH 2 67 ?v155 rfl rfl (by kernel_rfl) (by kernel_rfl) (by kernel_rfl) (fun _ _ _ h => h) (by kernel_rfl) hS0 ?hy155 ?_
                case hy155 => (intro W hW; clear hW; go_simp; try rfl)
                simp only [Act.put, List.setIfInBounds_toArray, List.set_cons_zero, List.set_cons_succ]
                refine takeInH 3 68 ?v156 rfl rfl (by kernel_rfl) (by kernel_rfl) (by kernel_rfl) (fun _ _ _ h => h) (by kernel_rfl) hS0 ?hy156 ?_
                case hy156 => (intro W hW; clear hW; go_simp; try rfl)
                simp only [Act.put, List.setIfInBounds_toArray, List.set_cons_zero, List.set_cons_succ]
                refine takeInH 4 69 ?v157 rfl rfl (by kernel_rfl) (by kernel_rfl) (by kernel_rfl) (fun _ _ _ h => h) (by kernel_rfl) hS0 ?hy157 ?_
                case hy157 => (intro W hW; clear hW; go_simp; try rfl)
                simp only [Act.put, List.setIfInBounds_toArray, List.set_cons_zero, List.set_cons_succ]
                refine takeInH 5 70 ?v158 rfl rfl (by kernel_rfl) (by kernel_rfl) (by kernel_rfl) (fun _ _ _ h => h) (by kernel_rfl) hS0 ?hy158 ?_
                case hy158 => (intro W hW; have e0 := bcell hW d0; have e1 := bcell hW d1; clear hW; go_simp; try rfl)
                simp only [Act.put, List.setIfInBounds_toArray, List.set_cons_zero, List.set_cons_succ]
                refine takeInH 6 71 ?v159 rfl rfl (by kernel_rfl) (by kernel_rfl) (by kernel_rfl) (fun _ _ _ h => h) (by kernel_rfl) hS0 ?hy159 ?_
                case hy159 => (intro W hW; clear hW; go_simp; try rfl)
                simp only [Act.put, List.setIfInBounds_toArray, List.set_cons_zero, List.set_cons_succ]
                refine takeInH 7 72 ?v160 rfl rfl (by kernel_rfl) (by kernel_rfl) (by kernel_rfl) (fun _ _ _ h => h) (by kernel_rfl) hS0 ?hy160 ?_
                case hy160 => (intro W hW; clear hW; go_simp; try rfl)
                simp only [Act.put, List.setIfInBounds_toArray, List.set_cons_zero, List.set_cons_succ]
                refine takeInH 8 73 ?v161 rfl rfl (by kernel_rfl) (by kernel_rfl) (by kernel_rfl) (fun _ _ _ h => h) (by kernel_rfl) hS0 ?hy161 ?_
                case hy161 => (intro W hW; clear hW; go_simp; try rfl)
                simp only [Act.put, List.setIfInBounds_toArray, List.set_cons_zero, List.set_cons_succ]
                refine takeInH 9 74 ?v162 rfl rfl (by kernel_rfl) (by kernel_rfl) (by kernel_rfl) (fun _ _ _ h => h) (by kernel_rfl) hS0 ?hy162 ?_
                case hy162 => (intro W hW; clear hW; go_simp; try rfl)
                simp only [Act.put, List.setIfInBounds_toArray, List.set_cons_zero, List.set_cons_succ]
                refine takeInH 10 75 ?v163 rfl rfl (by kernel_rfl) (by kernel_rfl) (by kernel_rfl) (fun _ _ _ h => h) (by kernel_rfl) hS0 ?hy163 ?_
                case hy163 => (intro W hW; have e0 := bcell hW d0; have e1 := bcell hW d1; clear hW; go_simp; try rfl)
                simp only [Act.put, List.setIfInBounds_toArray, List.set_cons_zero, List.set_cons_succ]
                refine wpAnyH_ready (rs := [11]) (by kernel_rfl) (by simp) ?_
                refine AllReadyH.cons rfl (fun K hK => ?_) AllReadyH.nil
                go_simp
                refine (Add10_good pb nB cb B kl ml _ (HNB.out.below hS0) HTB.out.may HOB.out HMB.out HCB.out).mono ?_
                rintro e9 wn ⟨p9, c9, rfl, hn9, hc9, hb⟩
                have HN9 := hide hn9
                have HC9 := hide hc9
                clear hn9 hc9
                refine hK.out _ _ ?hs164 (fun hS1 => ?_)
                case hs164 => exact bel_next hS0 hb
                clear hK K hb
                try simp only [Act.put, List.setIfInBounds_toArray, List.set_cons_zero, List.set_cons_succ]
                refine takeInH 12 64 ?v165 rfl rfl (by kernel_rfl) (by kernel_rfl) (by kernel_rfl) (fun _ _ _ h => h) (by kernel_rfl) hS1 ?hy165 ?_
                case hy165 => (intro W hW; clear hW; go_simp; try rfl)
                simp only [Act.put, List.setIfInBounds_toArray, List.set_cons_zero, List.set_cons_succ]
                refine takeInH 13 77 ?v166 rfl rfl (by kernel_rfl) (by kernel_rfl) (by kernel_rfl) (fun _ _ _ h => h) (by kernel_rfl) hS1 ?hy166 ?_
                case hy166 => (intro W hW; clear hW; go_simp; try rfl)
                simp only [Act.put, List.setIfInBounds_toArray, List.set_cons_zero, List.set_cons_succ]
                refine takeInH 14 78 ?v167 rfl rfl (by kernel_rfl) (by kernel_rfl) (by kernel_rfl) (fun _ _ _ h => h) (by kernel_rfl) hS1 ?hy167 ?_
                case hy167 => (intro W hW; clear hW; go_simp; try rfl)
                simp only [Act.put, List.setIfInBounds_toArray, List.set_cons_zero, List.set_cons_succ]
                refine takeInH 15 12 ?v168 rfl rfl (by kernel_rfl) (by kernel_rfl) (by kernel_rfl) (fun _ _ _ h => h) (by kernel_rfl) hS1 ?hy168 ?_
                case hy168 => (intro W hW; clear hW; go_simp; try rfl)
                simp only [Act.put, List.setIfInBounds_toArray, List.set_cons_zero, List.set_cons_succ]
                refine takeInH 16 13 ?v169 rfl rfl (by kernel_rfl) (by kernel_rfl) (by kernel_rfl) (fun _ _ _ h => h) (by kernel_rfl) hS1 ?hy169 ?_
                case hy169 => (intro W hW; clear hW; go_simp; try rfl)
                simp only [Act.put, List.setIfInBounds_toArray, List.set_cons_zero, List.set_cons_succ]
                refine wpAnyH_done (by kernel_rfl) ?_ _
                replace BBU := hide (bel_next BBU.out hS1)
                replace HNA := hide (HNA.out.below hS1)
                replace HNL := hide (HNL.out.below hS1)
                replace HNB := HN9
                replace HCB := HC9
                clear hS1 d0 d1
                generalize hww : wn = u at *
                clear hww
                go_upto_region 17 with fail
                refine wp_region_held_drew (S := fun W => Below u.heap.size u W) (by kernel_rfl) ((Below.refl _ u).drew) (fun hS0 => ?_)
                refine takeInH 1 83 ?v170 rfl rfl (by kernel_rfl) (by kernel_rfl) (by kernel_rfl) (fun _ _ _ h => h) (by kernel_rfl) hS0 ?hy170 ?_
                case hy170 => (intro W hW; clear hW; go_simp; try rfl)
                simp only [Act.put, List.setIfInBounds_toArray, List.set_cons_zero, List.set_cons_succ]
                refine takeInH 2 84 ?v171 rfl rfl (by kernel_rfl) (by kernel_rfl) (by kernel_rfl) (fun _ _ _ h => h) (by kernel_rfl) hS0 ?hy171 ?_
                case hy171 => (intro W hW; clear hW; go_simp; try rfl)
                simp only [Act.put, List.setIfInBounds_toArray, List.set_cons_zero, List.set_cons_succ]
                refine takeInH 3 85 ?v172 rfl rfl (by kernel_rfl) (by kernel_rfl) (by kernel_rfl) (fun _ _ _ h => h) (by kernel_rfl) hS0 ?hy172 ?_
                case hy172 => (intro W hW; clear hW; go_simp; try rfl)
                simp only [Act.put, List.setIfInBounds_toArray, List.set_cons_zero, List.set_cons_succ]
                refine takeInH 5 87 ?v173 rfl rfl (by kernel_rfl) (by kernel_rfl) (by kernel_rfl) (fun _ _ _ h => h) (by kernel_rfl) hS0 ?hy173 ?_
                case hy173 => (intro W hW; clear hW; go_simp; try rfl)
                simp only [Act.put, List.setIfInBounds_toArray, List.set_cons_zero, List.set_cons_succ]
                refine takeInH 6 88 ?v174 rfl rfl (by kernel_rfl) (by kernel_rfl) (by kernel_rfl) (fun _ _ _ h => h) (by kernel_rfl) hS0 ?hy174 ?_
                case hy174 => (intro W hW; clear hW; go_simp; try rfl)
                simp only [Act.put, List.setIfInBounds_toArray, List.set_cons_zero, List.set_cons_succ]
                refine takeInH 7 89 ?v175 rfl rfl (by kernel_rfl) (by kernel_rfl) (by kernel_rfl) (fun _ _ _ h => h) (by kernel_rfl) hS0 ?hy175 ?_
                case hy175 => (intro W hW; clear hW; go_simp; try rfl)
                simp only [Act.put, List.setIfInBounds_toArray, List.set_cons_zero, List.set_cons_succ]
                refine takeInH 8 90 ?v176 rfl rfl (by kernel_rfl) (by kernel_rfl) (by kernel_rfl) (fun _ _ _ h => h) (by kernel_rfl) hS0 ?hy176 ?_
                case hy176 => (intro W hW; clear hW; go_simp; try rfl)
                simp only [Act.put, List.setIfInBounds_toArray, List.set_cons_zero, List.set_cons_succ]
                refine wpAnyH_ready (rs := [0]) (by kernel_rfl) (by simp) ?_
                refine AllReadyH.cons rfl (fun K hK => ?_) AllReadyH.nil
                go_simp
                have BW : Below u.heap.size u (u.alloc (.cells #[] 36)).drew := (bel1 u (.cells #[] 36)).drew
                have OB := hide (show OwnR encC 2 36 u.heap.size (u.alloc (.cells #[] 36)).drew (.slice (some ⟨u.heap.size, 0, none⟩) 0 0) [] from (OwnR.made u u.heap.size u.heap.size rfl (Nat.le_refl _)).drew)
                generalize (u.alloc (.cells #[] 36)).drew = wb at OB BW ⊢
                refine hK.out _ _ ?hs177 (fun hS1 => ?_)
                case hs177 => exact BW
                clear hK K
                try simp only [Act.put, List.setIfInBounds_toArray, List.set_cons_zero, List.set_cons_succ]
                refine wpAnyH_ready (rs := [4]) (by kernel_rfl) (by simp) ?_
                refine AllReadyH.cons rfl (fun K hK => ?_) AllReadyH.nil
                rw [if_pos (by kernel_rfl)]
                refine append_rg _ _ 22 rfl Try.underlying22 Try.infoCel rfl (by decide) (by decide) encC_len encC_one u.heap.size _ [] (L.take 0) rfl OB.out (some ⟨bl0, offl, none⟩) 0 cl rfl (fun h => by cases h) ((HNL.out.below hS1).head 0 (by omega)) (by have := HLL2.out; rw [List.length_nil, List.length_take]; omega) hS1.size ?_
                intro v5 w5 ho5 hg5 hbel5
                have BS5 := hbel5 _ hS1
                rw [List.nil_append] at ho5
                have O5 := hide ho5
                clear ho5 hbel5 hg5
                change K (Act.put _ (some 86) _) _
                refine hK.out _ _ ?hs178 (fun hS2 => ?_)
                case hs178 => exact BS5
                clear hK K
                try simp only [Act.put, List.setIfInBounds_toArray, List.set_cons_zero, List.set_cons_succ]
                refine wpAnyH_ready (rs := [9]) (by kernel_rfl) (by simp) ?_
                refine AllReadyH.cons rfl (fun K hK => ?_) AllReadyH.nil
                rw [if_pos (by kernel_rfl)]
                refine append_rg _ _ 22 rfl Try.underlying22 Try.infoCel rfl (by decide) (by decide) encC_len encC_one u.heap.size _ (L.take 0) (L.drop (0 + 1)) rfl O5.out (if cl = 0 + 1 then some ⟨bl0, offl, none⟩ else some ⟨bl0, offl + (0 + 1) * 2, none⟩) (nL - (0 + 1)) (cl - (0 + 1)) rfl (fun h => by split at h <;> cases h) ((HNL.out.below hS2).rest (0 + 1) (by omega) (by omega)) (by have := HLL2.out; rw [List.length_take, List.length_drop]; omega) hS2.size ?_
                intro v6 w6 ho6 hg6 hbel6
                have BS6 := hbel6 _ hS2
                obtain ⟨p6, c6, hv6, hn6, hc6⟩ := ho6.open encC_len
                have HN6 := hide hn6
                have HC6 := hide hc6
                clear ho6 hbel6 hg6 hn6 hc6
                change K (Act.put _ (some 91) _) _
                refine hK.out _ _ ?hs179 (fun hS3 => ?_)
                case hs179 => exact BS6
                clear hK K
                try simp only [Act.put, List.setIfInBounds_toArray, List.set_cons_zero, List.set_cons_succ]
                refine takeInH 10 7 ?v180 rfl rfl (by kernel_rfl) (by kernel_rfl) (by kernel_rfl) (fun _ _ _ h => h) (by kernel_rfl) hS3 ?hy180 ?_
                case hy180 => (intro W hW; clear hW; go_simp; try rfl)
                simp only [Act.put, List.setIfInBounds_toArray, List.set_cons_zero, List.set_cons_succ]
                refine wpAnyH_done (by kernel_rfl) ?_ _
                subst hv6
                go_wp2
                go_roundw
                case rel => exact ⟨i + 1, pa, ca, A, p9, c9, (addT B kl ml), p6, c6, L.take 0 ++ L.drop (0 + 1), D ++ [(kl, ml)], by omega, by go_num, (by rw [HLA.out]), rfl, (by first | (rw [List.length_append, List.length_take, List.length_drop]; done) | simp), (show Hid _ by rw [HLA.out]; exact HNA.out.below hS3), (show Hid _ from HNB.out.below hS3), HN6, HC6, (show Hid _ by rw [HLA.out]; exact HCA.out), (show Hid _ from HCB.out), HTA3, HTB3, HPM3, (show Hid _ by unfold Hid; rw [List.length_append, List.length_take, List.length_drop]; have := HLL.out; have := HLL2.out; omega), (show Hid _ from bel_next BBU.out hS3)⟩
                case measure => simp [intOf]; omega
          · have HOA := hide hok
            have HTA3 : Hid (TA (addT A k m) (s.take (i + 1))) := by have := HTA2.out; unfold stepT at this; rw [if_pos hok] at this; exact this
            have HMA : Hid (mayT (addT A k m) = true) := HTA3.out.may
            clear hok
            have HLL2 := hide hnLL
            clear hnLL
            go_upto_region 8 with fail
            refine wp_region_held_drew (S := fun W => Below wr.heap.size wr W) (by kernel_rfl) ((Below.refl _ wr).drew) (fun hS0 => ?_)
            refine takeInH 0 35 ?v181 rfl rfl (by kernel_rfl) (by kernel_rfl) (by kernel_rfl) (fun _ _ _ h => h) (by kernel_rfl) hS0 ?hy181 ?_
            case hy181 => (intro W hW; clear hW; go_simp; try rfl)
            simp only [Act.put, List.setIfInBounds_toArray, List.set_cons_zero, List.set_cons_succ]
            refine takeInH 1 36 ?v182 rfl rfl (by kernel_rfl) (by kernel_rfl) (by kernel_rfl) (fun _ _ _ h => h) (by kernel_rfl) hS0 ?hy182 ?_
            case hy182 => (intro W hW; clear hW; go_simp; try rfl)
            simp only [Act.put, List.setIfInBounds_toArray, List.set_cons_zero, List.set_cons_succ]
            refine takeInH 2 37 ?v183 rfl rfl (by kernel_rfl) (by kernel_rfl) (by kernel_rfl) (fun _ _ _ h => h) (by kernel_rfl) hS0 ?hy183 ?_
            case hy183 => (intro W hW; clear hW; go_simp; try rfl)
            simp only [Act.put, List.setIfInBounds_toArray, List.set_cons_zero, List.set_cons_succ]
            refine takeInH 3 38 ?v184 rfl rfl (by kernel_rfl) (by kernel_rfl) (by kernel_rfl) (fun _ _ _ h => h) (by kernel_rfl) hS0 ?hy184 ?_
            case hy184 => (intro W hW; clear hW; go_simp; try rfl)
            simp only [Act.put, List.setIfInBounds_toArray, List.set_cons_zero, List.set_cons_succ]
            refine takeInH 4 39 ?v185 rfl rfl (by kernel_rfl) (by kernel_rfl) (by kernel_rfl) (fun _ _ _ h => h) (by kernel_rfl) hS0 ?hy185 ?_
            case hy185 => (intro W hW; clear hW; go_simp; try rfl)
            simp only [Act.put, List.setIfInBounds_toArray, List.set_cons_zero, List.set_cons_succ]
            refine takeInH 5 40 ?v186 rfl rfl (by kernel_rfl) (by kernel_rfl) (by kernel_rfl) (fun _ _ _ h => h) (by kernel_rfl) hS0 ?hy186 ?_
            case hy186 => (intro W hW; have e0 := bcell hW c0; have e1 := bcell hW c1; clear hW; go_simp; try rfl)
            simp only [Act.put, List.setIfInBounds_toArray, List.set_cons_zero, List.set_cons_succ]
            refine takeInH 6 41 ?v187 rfl rfl (by kernel_rfl) (by kernel_rfl) (by kernel_rfl) (fun _ _ _ h => h) (by kernel_rfl) hS0 ?hy187 ?_
            case hy187 => (intro W hW; clear hW; go_simp; try rfl)
            simp only [Act.put, List.setIfInBounds_toArray, List.set_cons_zero, List.set_cons_succ]
            refine takeInH 7 42 ?v188 rfl rfl (by kernel_rfl) (by kernel_rfl) (by kernel_rfl) (fun _ _ _ h => h) (by kernel_rfl) hS0 ?hy188 ?_
            case hy188 => (intro W hW; clear hW; go_simp; try rfl)
            simp only [Act.put, List.setIfInBounds_toArray, List.set_cons_zero, List.set_cons_succ]
            refine takeInH 8 43 ?v189 rfl rfl (by kernel_rfl) (by kernel_rfl) (by kernel_rfl) (fun _ _ _ h => h) (by kernel_rfl) hS0 ?hy189 ?_
            case hy189 => (intro W hW; clear hW; go_simp; try rfl)
            simp only [Act.put, List.setIfInBounds_toArray, List.set_cons_zero, List.set_cons_succ]
            refine takeInH 9 44 ?v190 rfl rfl (by kernel_rfl) (by kernel_rfl) (by kernel_rfl) (fun _ _ _ h => h) (by kernel_rfl) hS0 ?hy190 ?_
            case hy190 => (intro W hW; clear hW; go_simp; try rfl)
            simp only [Act.put, List.setIfInBounds_toArray, List.set_cons_zero, List.set_cons_succ]
            refine takeInH 10 45 ?v191 rfl rfl (by kernel_rfl) (by kernel_rfl) (by kernel_rfl) (fun _ _ _ h => h) (by kernel_rfl) hS0 ?hy191 ?_
            case hy191 => (intro W hW; have e0 := bcell hW c0; have e1 := bcell hW c1; clear hW; go_simp; try rfl)
            simp only [Act.put, List.setIfInBounds_toArray, List.set_cons_zero, List.set_cons_succ]
            refine wpAnyH_ready (rs := [11]) (by kernel_rfl) (by simp) ?_
            refine AllReadyH.cons rfl (fun K hK => ?_) AllReadyH.nil
            go_simp
            refine (Add10_good pa nA ca A k m _ (HNA.out.below hS0) HTA.out.may HOA.out HMA.out HCA.out).mono ?_
            rintro e9 wn ⟨p9, c9, rfl, hn9, hc9, hb⟩
            have HN9 := hide hn9
            have HC9 := hide hc9
            clear hn9 hc9
            refine hK.out _ _ ?hs192 (fun hS1 => ?_)
            case hs192 => exact bel_next hS0 hb
            clear hK K hb
            try simp only [Act.put, List.setIfInBounds_toArray, List.set_cons_zero, List.set_cons_succ]
            refine takeInH 12 34 ?v193 rfl rfl (by kernel_rfl) (by kernel_rfl) (by kernel_rfl) (fun _ _ _ h => h) (by kernel_rfl) hS1 ?hy193 ?_
            case hy193 => (intro W hW; clear hW; go_simp; try rfl)
            simp only [Act.put, List.setIfInBounds_toArray, List.set_cons_zero, List.set_cons_succ]
            refine takeInH 13 47 ?v194 rfl rfl (by kernel_rfl) (by kernel_rfl) (by kernel_rfl) (fun _ _ _ h => h) (by kernel_rfl) hS1 ?hy194 ?_
            case hy194 => (intro W hW; clear hW; go_simp; try rfl)
            simp only [Act.put, List.setIfInBounds_toArray, List.set_cons_zero, List.set_cons_succ]
            refine takeInH 14 48 ?v195 rfl rfl (by kernel_rfl) (by kernel_rfl) (by kernel_rfl) (fun _ _ _ h => h) (by kernel_rfl) hS1 ?hy195 ?_
            case hy195 => (intro W hW; clear hW; go_simp; try rfl)
            simp only [Act.put, List.setIfInBounds_toArray, List.set_cons_zero, List.set_cons_succ]
            refine takeInH 15 9 ?v196 rfl rfl (by kernel_rfl) (by kernel_rfl) (by kernel_rfl) (fun _ _ _ h => h) (by kernel_rfl) hS1 ?hy196 ?_
            case hy196 => (intro W hW; clear hW; go_simp; try rfl)
            simp only [Act.put, List.setIfInBounds_toArray, List.set_cons_zero, List.set_cons_succ]
            refine takeInH 16 10 ?v197 rfl rfl (by kernel_rfl) (by kernel_rfl) (by kernel_rfl) (fun _ _ _ h => h) (by kernel_rfl) hS1 ?hy197 ?_
            case hy197 => (intro W hW; clear hW; go_simp; try rfl)
            simp only [Act.put, List.setIfInBounds_toArray, List.set_cons_zero, List.set_cons_succ]
            refine wpAnyH_done (by kernel_rfl) ?_ _
            replace BBU := hide (bel_next BBU.out hS1)
            replace HNA := HN9
            replace HCA := HC9
            clear HN9 HC9
            replace HNB := hide (HNB.out.below hS1)
            replace HNL := hide (HNL.out.below hS1)
            obtain ⟨p9a, hp9a⟩ : ∃ x, x = p9 := ⟨_, rfl⟩
            obtain ⟨c9a, hc9a⟩ : ∃ x, x = c9 := ⟨_, rfl⟩
            rw [← hp9a, ← hc9a]
            rw [← hp9a] at HNA
            rw [← hp9a, ← hc9a] at HCA
            clear hp9a hc9a p9 c9
            clear hS1 c0 c1
            by_cases hti : i < nt
            · obtain ⟨x, hxv, hx0, hx1⟩ : ∃ x : Int, (∃ bt offt, pt = some ⟨bt, offt, none⟩ ∧ w1.cell? ⟨bt, offt + i, none⟩ = some (.int .u8 x)) ∧ 0 ≤ x ∧ x < 256 := HTX.out i hti
              obtain ⟨bt, offt, rfl, ht0⟩ := hxv
              have t0 := bcell BBU.out ht0
              have hti1 : (i : Int) < (nt : Int) := by omega
              have hL0 : ¬ ((nL : Int) = 0) := by omega
              have hL1 : ¬ (nL = 0) := by omega
              obtain ⟨nn, hnn, hnL⟩ : ∃ nn : Nat, x % (nL : Int) = (nn : Int) ∧ nn < nL := by
                refine ⟨(x % (nL : Int)).toNat, ?_, ?_⟩
                · have := Int.emod_nonneg x hL0; omega
                · have := Int.emod_nonneg x hL0
                  have := Int.emod_lt_of_pos x (show (0 : Int) < (nL : Int) by omega)
                  omega
              have hnt : Int.tmod x (nL : Int) = (nn : Int) := by rw [Int.tmod_eq_emod_of_nonneg hx0]; exact hnn
              clear ht0
              obtain ⟨kl, ml, hxl, d0, d1⟩ := HNL.out.at nn (by omega)
              have HPM3 : Hid ((D ++ [(kl, ml)] ++ (L.take nn ++ L.drop (nn + 1))).Perm s) := (perm_take hxl).trans HPM.out
              have HTB2 := hide (HTB.out.step (kl, ml) (by have := HPM.out.length_eq; rw [List.length_append, HLEN.out] at this; omega))
              have hnn0 : (0 : Int) ≤ (nn : Int) := by omega
              have hnn1 : (nn : Int) < (nL : Int) := by omega
              have hnn2 : (nn : Int) ≤ (cl : Int) := by omega
              have hnn3 : (nn : Int) + 1 ≤ (nL : Int) := by omega
              have hnn4 : IntKind.i64.wrap ((nn : Int) + 1) = (nn : Int) + 1 := by rw [IntKind.wrap_i64]; omega
              have hnn5 : (0 : Int) ≤ (nn : Int) + 1 := by omega
              have hnn6 : ((nn : Int) + 1).toNat = nn + 1 := by omega
              clear hxl
              rcases hokb : okT (kl, ml) with _ | _
              · have HNOB : Hid ((mayT B && okT (kl, ml)) = false) := by unfold Hid; rw [hokb, Bool.and_false]
                have HTB3 : Hid (TA B (D ++ [(kl, ml)])) := by have := HTB2.out; unfold stepT at this; rw [hokb] at this; exact this
                clear hokb
                go_upto_region 14 with fail
                refine wp_region_held_drew (S := fun W => Below wn.heap.size wn W) (by kernel_rfl) ((Below.refl _ wn).drew) (fun hS0 => ?_)
                refine takeInH 0 65 ?v198 rfl rfl (by kernel_rfl) (by kernel_rfl) (by kernel_rfl) (fun _ _ _ h => h) (by kernel_rfl) hS0 ?hy198 ?_
                case hy198 => (intro W hW; clear hW; go_simp; try rfl)
                simp only [Act.put, List.setIfInBounds_toArray, List.set_cons_zero, List.set_cons_succ]
                refine takeInH 1 66 ?v199 rfl rfl (by kernel_rfl) (by kernel_rfl) (by kernel_rfl) (fun _ _ _ h => h) (by kernel_rfl) hS0 ?hy199 ?_
                case hy199 => (intro W hW; clear hW; go_simp; try rfl)
                simp only [Act.put, List.setIfInBounds_toArray, List.set_cons_zero, List.set_cons_succ]
                refine takeInH 2 67 ?v200 rfl rfl (by kernel_rfl) (by kernel_rfl) (by kernel_rfl) (fun _ _ _ h => h) (by kernel_rfl) hS0 ?hy200 ?_
                case hy200 => (intro W hW; clear hW; go_simp; try rfl)
                simp only [Act.put, List.setIfInBounds_toArray, List.set_cons_zero, List.set_cons_succ]
                refine takeInH 3 68 ?v201 rfl rfl (by kernel_rfl) (by kernel_rfl) (by kernel_rfl) (fun _ _ _ h => h) (by kernel_rfl) hS0 ?hy201 ?_
                case hy201 => (intro W hW; clear hW; go_simp; try rfl)
                simp only [Act.put, List.setIfInBounds_toArray, List.set_cons_zero, List.set_cons_succ]
                refine takeInH 4 69 ?v202 rfl rfl (by kernel_rfl) (by kernel_rfl) (by kernel_rfl) (fun _ _ _ h => h) (by kernel_rfl) hS0 ?hy202 ?_
                case hy202 => (intro W hW; clear hW; go_simp; try rfl)
                simp only [Act.put, List.setIfInBounds_toArray, List.set_cons_zero, List.set_cons_succ]
                refine takeInH 5 70 ?v203 rfl rfl (by kernel_rfl) (by kernel_rfl) (by kernel_rfl) (fun _ _ _ h => h) (by kernel_rfl) hS0 ?hy203 ?_
                case hy203 => (intro W hW; have e0 := bcell hW d0; have e1 := bcell hW d1; clear hW; go_simp; try rfl)
                simp only [Act.put, List.setIfInBounds_toArray, List.set_cons_zero, List.set_cons_succ]
                refine takeInH 6 71 ?v204 rfl rfl (by kernel_rfl) (by kernel_rfl) (by kernel_rfl) (fun _ _ _ h => h) (by kernel_rfl) hS0 ?hy204 ?_
                case hy204 => (intro W hW; clear hW; go_simp; try rfl)
                simp only [Act.put, List.setIfInBounds_toArray, List.set_cons_zero, List.set_cons_succ]
                refine takeInH 7 72 ?v205 rfl rfl (by kernel_rfl) (by kernel_rfl) (by kernel_rfl) (fun _ _ _ h => h) (by kernel_rfl) hS0 ?hy205 ?_
                case hy205 => (intro W hW; clear hW; go_simp; try rfl)
                simp only [Act.put, List.setIfInBounds_toArray, List.set_cons_zero, List.set_cons_succ]
                refine takeInH 8 73 ?v206 rfl rfl (by kernel_rfl) (by kernel_rfl) (by kernel_rfl) (fun _ _ _ h => h) (by kernel_rfl) hS0 ?hy206 ?_
                case hy206 => (intro W hW; clear hW; go_simp; try rfl)
                simp only [Act.put, List.setIfInBounds_toArray, List.set_cons_zero, List.set_cons_succ]
                refine takeInH 9 74 ?v207 rfl rfl (by kernel_rfl) (by kernel_rfl) (by kernel_rfl) (fun _ _ _ h => h) (by kernel_rfl) hS0 ?hy207 ?_
                case hy207 => (intro W hW; clear hW; go_simp; try rfl)
                simp only [Act.put, List.setIfInBounds_toArray, List.set_cons_zero, List.set_cons_succ]
                refine takeInH 10 75 ?v208 rfl rfl (by kernel_rfl) (by kernel_rfl) (by kernel_rfl) (fun _ _ _ h => h) (by kernel_rfl) hS0 ?hy208 ?_
                case hy208 => (intro W hW; have e0 := bcell hW d0; have e1 := bcell hW d1; clear hW; go_simp; try rfl)
                simp only [Act.put, List.setIfInBounds_toArray, List.set_cons_zero, List.set_cons_succ]
                refine wpAnyH_ready (rs := [11]) (by kernel_rfl) (by simp) ?_
                refine AllReadyH.cons rfl (fun K hK => ?_) AllReadyH.nil
                go_simp
                refine (Add10_bad pb nB cb B kl ml _ (HNB.out.below hS0) HNOB.out).mono ?_
                rintro e9 wn ⟨rfl, hb⟩
                refine hK.out _ _ ?hs209 (fun hS1 => ?_)
                case hs209 => exact bel_next hS0 hb
                clear hK K hb
                try simp only [Act.put, List.setIfInBounds_toArray, List.set_cons_zero, List.set_cons_succ]
                refine takeInH 12 64 ?v210 rfl rfl (by kernel_rfl) (by kernel_rfl) (by kernel_rfl) (fun _ _ _ h => h) (by kernel_rfl) hS1 ?hy210 ?_
                case hy210 => (intro W hW; clear hW; go_simp; try rfl)
                simp only [Act.put, List.setIfInBounds_toArray, List.set_cons_zero, List.set_cons_succ]
                refine takeInH 13 77 ?v211 rfl rfl (by kernel_rfl) (by kernel_rfl) (by kernel_rfl) (fun _ _ _ h => h) (by kernel_rfl) hS1 ?hy211 ?_
                case hy211 => (intro W hW; clear hW; go_simp; try rfl)
                simp only [Act.put, List.setIfInBounds_toArray, List.set_cons_zero, List.set_cons_succ]
                refine takeInH 14 78 ?v212 rfl rfl (by kernel_rfl) (by kernel_rfl) (by kernel_rfl) (fun _ _ _ h => h) (by kernel_rfl) hS1 ?hy212 ?_
                case hy212 => (intro W hW; clear hW; go_simp; try rfl)
                simp only [Act.put, List.setIfInBounds_toArray, List.set_cons_zero, List.set_cons_succ]
                refine takeInH 15 12 ?v213 rfl rfl (by kernel_rfl) (by kernel_rfl) (by kernel_rfl) (fun _ _ _ h => h) (by kernel_rfl) hS1 ?hy213 ?_
                case hy213 => (intro W hW; clear hW; go_simp; try rfl)
                simp only [Act.put, List.setIfInBounds_toArray, List.set_cons_zero, List.set_cons_succ]
                refine takeInH 16 13 ?v214 rfl rfl (by kernel_rfl) (by kernel_rfl) (by kernel_rfl) (fun _ _ _ h => h) (by kernel_rfl) hS1 ?hy214 ?_
                case hy214 => (intro W hW; clear hW; go_simp; try rfl)
                simp only [Act.put, List.setIfInBounds_toArray, List.set_cons_zero, List.set_cons_succ]
                refine wpAnyH_done (by kernel_rfl) ?_ _
                replace BBU := hide (bel_next BBU.out hS1)
                replace HNA := hide (HNA.out.below hS1)
                replace HNL := hide (HNL.out.below hS1)
                replace HNB := hide (HNB.out.below hS1)
                skip
                clear hS1 d0 d1
                generalize hww : wn = u at *
                clear hww
                go_upto_region 17 with fail
                refine wp_region_held_drew (S := fun W => Below u.heap.size u W) (by kernel_rfl) ((Below.refl _ u).drew) (fun hS0 => ?_)
                refine takeInH 1 83 ?v215 rfl rfl (by kernel_rfl) (by kernel_rfl) (by kernel_rfl) (fun _ _ _ h => h) (by kernel_rfl) hS0 ?hy215 ?_
                case hy215 => (intro W hW; clear hW; go_simp; try rfl)
                simp only [Act.put, List.setIfInBounds_toArray, List.set_cons_zero, List.set_cons_succ]
                refine takeInH 2 84 ?v216 rfl rfl (by kernel_rfl) (by kernel_rfl) (by kernel_rfl) (fun _ _ _ h => h) (by kernel_rfl) hS0 ?hy216 ?_
                case hy216 => (intro W hW; clear hW; go_simp; try rfl)
                simp only [Act.put, List.setIfInBounds_toArray, List.set_cons_zero, List.set_cons_succ]
                refine takeInH 3 85 ?v217 rfl rfl (by kernel_rfl) (by kernel_rfl) (by kernel_rfl) (fun _ _ _ h => h) (by kernel_rfl) hS0 ?hy217 ?_
                case hy217 => (intro W hW; clear hW; go_simp; try rfl)
                simp only [Act.put, List.setIfInBounds_toArray, List.set_cons_zero, List.set_cons_succ]
                refine takeInH 5 87 ?v218 rfl rfl (by kernel_rfl) (by kernel_rfl) (by kernel_rfl) (fun _ _ _ h => h) (by kernel_rfl) hS0 ?hy218 ?_
                case hy218 => (intro W hW; clear hW; go_simp; try rfl)
                simp only [Act.put, List.setIfInBounds_toArray, List.set_cons_zero, List.set_cons_succ]
                refine takeInH 6 88 ?v219 rfl rfl (by kernel_rfl) (by kernel_rfl) (by kernel_rfl) (fun _ _ _ h => h) (by kernel_rfl) hS0 ?hy219 ?_
                case hy219 => (intro W hW; clear hW; go_simp; try rfl)
                simp only [Act.put, List.setIfInBounds_toArray, List.set_cons_zero, List.set_cons_succ]
                refine takeInH 7 89 ?v220 rfl rfl (by kernel_rfl) (by kernel_rfl) (by kernel_rfl) (fun _ _ _ h => h) (by kernel_rfl) hS0 ?hy220 ?_
                case hy220 => (intro W hW; clear hW; go_simp; try rfl)
                simp only [Act.put, List.setIfInBounds_toArray, List.set_cons_zero, List.set_cons_succ]
                refine takeInH 8 90 ?v221 rfl rfl (by kernel_rfl) (by kernel_rfl) (by kernel_rfl) (fun _ _ _ h => h) (by kernel_rfl) hS0 ?hy221 ?_
                case hy221 => (intro W hW; clear hW; go_simp; try rfl)
                simp only [Act.put, List.setIfInBounds_toArray, List.set_cons_zero, List.set_cons_succ]
                refine wpAnyH_ready (rs := [0]) (by kernel_rfl) (by simp) ?_
                refine AllReadyH.cons rfl (fun K hK => ?_) AllReadyH.nil
                go_simp
                have BW : Below u.heap.size u (u.alloc (.cells #[] 36)).drew := (bel1 u (.cells #[] 36)).drew
                have OB := hide (show OwnR encC 2 36 u.heap.size (u.alloc (.cells #[] 36)).drew (.slice (some ⟨u.heap.size, 0, none⟩) 0 0) [] from (OwnR.made u u.heap.size u.heap.size rfl (Nat.le_refl _)).drew)
                generalize (u.alloc (.cells #[] 36)).drew = wb at OB BW ⊢
                refine hK.out _ _ ?hs222 (fun hS1 => ?_)
                case hs222 => exact BW
                clear hK K
                try simp only [Act.put, List.setIfInBounds_toArray, List.set_cons_zero, List.set_cons_succ]
                refine wpAnyH_ready (rs := [4]) (by kernel_rfl) (by simp) ?_
                refine AllReadyH.cons rfl (fun K hK => ?_) AllReadyH.nil
                rw [if_pos (by kernel_rfl)]
                refine append_rg _ _ 22 rfl Try.underlying22 Try.infoCel rfl (by decide) (by decide) encC_len encC_one u.heap.size _ [] (L.take nn) rfl OB.out (some ⟨bl0, offl, none⟩) nn cl rfl (fun h => by cases h) ((HNL.out.below hS1).head nn (by omega)) (by have := HLL2.out; rw [List.length_nil, List.length_take]; omega) hS1.size ?_
                intro v5 w5 ho5 hg5 hbel5
                have BS5 := hbel5 _ hS1
                rw [List.nil_append] at ho5
                have O5 := hide ho5
                clear ho5 hbel5 hg5
                change K (Act.put _ (some 86) _) _
                refine hK.out _ _ ?hs223 (fun hS2 => ?_)
                case hs223 => exact BS5
                clear hK K
                try simp only [Act.put, List.setIfInBounds_toArray, List.set_cons_zero, List.set_cons_succ]
                refine wpAnyH_ready (rs := [9]) (by kernel_rfl) (by simp) ?_
                refine AllReadyH.cons rfl (fun K hK => ?_) AllReadyH.nil
                rw [if_pos (by kernel_rfl)]
                refine append_rg _ _ 22 rfl Try.underlying22 Try.infoCel rfl (by decide) (by decide) encC_len encC_one u.heap.size _ (L.take nn) (L.drop (nn + 1)) rfl O5.out (if cl = nn + 1 then some ⟨bl0, offl, none⟩ else some ⟨bl0, offl + (nn + 1) * 2, none⟩) (nL - (nn + 1)) (cl - (nn + 1)) rfl (fun h => by split at h <;> cases h) ((HNL.out.below hS2).rest (nn + 1) (by omega) (by omega)) (by have := HLL2.out; rw [List.length_take, List.length_drop]; omega) hS2.size ?_
                intro v6 w6 ho6 hg6 hbel6
                have BS6 := hbel6 _ hS2
                obtain ⟨p6, c6, hv6, hn6, hc6⟩ := ho6.open encC_len
                have HN6 := hide hn6
                have HC6 := hide hc6
                clear ho6 hbel6 hg6 hn6 hc6
                change K (Act.put _ (some 91) _) _
                refine hK.out _ _ ?hs224 (fun hS3 => ?_)
                case hs224 => exact BS6
                clear hK K
                try simp only [Act.put, List.setIfInBounds_toArray, List.set_cons_zero, List.set_cons_succ]
                refine takeInH 10 7 ?v225 rfl rfl (by kernel_rfl) (by kernel_rfl) (by kernel_rfl) (fun _ _ _ h => h) (by kernel_rfl) hS3 ?hy225 ?_
                case hy225 => (intro W hW; clear hW; go_simp; try rfl)
                simp only [Act.put, List.setIfInBounds_toArray, List.set_cons_zero, List.set_cons_succ]
                refine wpAnyH_done (by kernel_rfl) ?_ _
                subst hv6
                go_wp2
                go_roundw
                case rel => exact ⟨i + 1, p9a, c9a, (addT A k m), pb, cb, B, p6, c6, L.take nn ++ L.drop (nn + 1), D ++ [(kl, ml)], by omega, by go_num, rfl, (by rw [HLB.out]), (by first | (rw [List.length_append, List.length_take, List.length_drop]; done) | simp), (show Hid _ from HNA.out.below hS3), (show Hid _ by rw [HLB.out]; exact HNB.out.below hS3), HN6, HC6, (show Hid _ from HCA.out), (show Hid _ by rw [HLB.out]; exact HCB.out), HTA3, HTB3, HPM3, (show Hid _ by unfold Hid; rw [List.length_append, List.length_take, List.length_drop]; have := HLL.out; have := HLL2.out; omega), (show Hid _ from bel_next BBU.out hS3)⟩
                case measure => simp [intOf]; omega
              · have HOB := hide hokb
                have HTB3 : Hid (TA (addT B kl ml) (D ++ [(kl, ml)])) := by have := HTB2.out; unfold stepT at this; rw [if_pos hokb] at this; exact this
                have HMB : Hid (mayT (addT B kl ml) = true) := HTB3.out.may
                clear hokb
                go_upto_region 14 with fail
                refine wp_region_held_drew (S := fun W => Below wn.heap.size wn W) (by kernel_rfl) ((Below.refl _ wn).drew) (fun hS0 => ?_)
                refine takeInH 0 65 ?v226 rfl rfl (by kernel_rfl) (by kernel_rfl) (by kernel_rfl) (fun _ _ _ h => h) (by kernel_rfl) hS0 ?hy226 ?_
                case hy226 => (intro W hW; clear hW; go_simp; try rfl)
                simp only [Act.put, List.setIfInBounds_toArray, List.set_cons_zero, List.set_cons_succ]
                refine takeInH 1 66 ?v227 rfl rfl (by kernel_rfl) (by kernel_rfl) (by kernel_rfl) (fun _ _ _ h => h) (by kernel_rfl) hS0 ?hy227 ?_
                case hy227 => (intro W hW; clear hW; go_simp; try rfl)
                simp only [Act.put, List.setIfInBounds_toArray, List.set_cons_zero, List.set_cons_succ]
                refine takeInH 2 67 ?v228 rfl rfl (by kernel_rfl) (by kernel_rfl) (by kernel_rfl) (fun _ _ _ h => h) (by kernel_rfl) hS0 ?hy228 ?_
                case hy228 => (intro W hW; clear hW; go_simp; try rfl)
                simp only [Act.put, List.setIfInBounds_toArray, List.set_cons_zero, List.set_cons_succ]
                refine takeInH 3 68 ?v229 rfl rfl (by kernel_rfl) (by kernel_rfl) (by kernel_rfl) (fun _ _ _ h => h) (by kernel_rfl) hS0 ?hy229 ?_
                case hy229 => (intro W hW; clear hW; go_simp; try rfl)
                simp only [Act.put, List.setIfInBounds_toArray, List.set_cons_zero, List.set_cons_succ]
                refine takeInH 4 69 ?v230 rfl rfl (by kernel_rfl) (by kernel_rfl) (by kernel_rfl) (fun _ _ _ h => h) (by kernel_rfl) hS0 ?hy230 ?_
                case hy230 => (intro W hW; clear hW; go_simp; try rfl)
                simp only [Act.put, List.setIfInBounds_toArray, List.set_cons_zero, List.set_cons_succ]
                refine takeInH 5 70 ?v231 rfl rfl (by kernel_rfl) (by kernel_rfl) (by kernel_rfl) (fun _ _ _ h => h) (by kernel_rfl) hS0 ?hy231 ?_
                case hy231 => (intro W hW; have e0 := bcell hW d0; have e1 := bcell hW d1; clear hW; go_simp; try rfl)
                simp only [Act.put, List.setIfInBounds_toArray, List.set_cons_zero, List.set_cons_succ]
                refine takeInH 6 71 ?v232 rfl rfl (by kernel_rfl) (by kernel_rfl) (by kernel_rfl) (fun _ _ _ h => h) (by kernel_rfl) hS0 ?hy232 ?_
                case hy232 => (intro W hW; clear hW; go_simp; try rfl)
                simp only [Act.put, List.setIfInBounds_toArray, List.set_cons_zero, List.set_cons_succ]
                refine takeInH 7 72 ?v233 rfl rfl (by kernel_rfl) (by kernel_rfl) (by kernel_rfl) (fun _ _ _ h => h) (by kernel_rfl) hS0 ?hy233 ?_
                case hy233 => (intro W hW; clear hW; go_simp; try rfl)
                simp only [Act.put, List.setIfInBounds_toArray, List.set_cons_zero, List.set_cons_succ]
                refine takeInH 8 73 ?v234 rfl rfl (by kernel_rfl) (by kernel_rfl) (by kernel_rfl) (fun _ _ _ h => h) (by kernel_rfl) hS0 ?hy234 ?_
                case hy234 => (intro W hW; clear hW; go_simp; try rfl)
                simp only [Act.put, List.setIfInBounds_toArray, List.set_cons_zero, List.set_cons_succ]
                refine takeInH 9 74 ?v235 rfl rfl (by kernel_rfl) (by kernel_rfl) (by kernel_rfl) (fun _ _ _ h => h) (by kernel_rfl) hS0 ?hy235 ?_
                case hy235 => (intro W hW; clear hW; go_simp; try rfl)
                simp only [Act.put, List.setIfInBounds_toArray, List.set_cons_zero, List.set_cons_succ]
                refine takeInH 10 75 ?v236 rfl rfl (by kernel_rfl) (by kernel_rfl) (by kernel_rfl) (fun _ _ _ h => h) (by kernel_rfl) hS0 ?hy236 ?_
                case hy236 => (intro W hW; have e0 := bcell hW d0; have e1 := bcell hW d1; clear hW; go_simp; try rfl)
                simp only [Act.put, List.setIfInBounds_toArray, List.set_cons_zero, List.set_cons_succ]
                refine wpAnyH_ready (rs := [11]) (by kernel_rfl) (by simp) ?_
                refine AllReadyH.cons rfl (fun K hK => ?_) AllReadyH.nil
                go_simp
                refine (Add10_good pb nB cb B kl ml _ (HNB.out.below hS0) HTB.out.may HOB.out HMB.out HCB.out).mono ?_
                rintro e9 wn ⟨p9, c9, rfl, hn9, hc9, hb⟩
                have HN9 := hide hn9
                have HC9 := hide hc9
                clear hn9 hc9
                refine hK.out _ _ ?hs237 (fun hS1 => ?_)
                case hs237 => exact bel_next hS0 hb
                clear hK K hb
                try simp only [Act.put, List.setIfInBounds_toArray, List.set_cons_zero, List.set_cons_succ]
                refine takeInH 12 64 ?v238 rfl rfl (by kernel_rfl) (by kernel_rfl) (by kernel_rfl) (fun _ _ _ h => h) (by kernel_rfl) hS1 ?hy238 ?_
                case hy238 => (intro W hW; clear hW; go_simp; try rfl)
                simp only [Act.put, List.setIfInBounds_toArray, List.set_cons_zero, List.set_cons_succ]
                refine takeInH 13 77 ?v239 rfl rfl (by kernel_rfl) (by kernel_rfl) (by kernel_rfl) (fun _ _ _ h => h) (by kernel_rfl) hS1 ?hy239 ?_
                case hy239 => (intro W hW; clear hW; go_simp; try rfl)
                simp only [Act.put, List.setIfInBounds_toArray, List.set_cons_zero, List.set_cons_succ]
                refine takeInH 14 78 ?v240 rfl rfl (by kernel_rfl) (by kernel_rfl) (by kernel_rfl) (fun _ _ _ h => h) (by kernel_rfl) hS1 ?hy240 ?_
                case hy240 => (intro W hW; clear hW; go_simp; try rfl)
                simp only [Act.put, List.setIfInBounds_toArray, List.set_cons_zero, List.set_cons_succ]
                refine takeInH 15 12 ?v241 rfl rfl (by kernel_rfl) (by kernel_rfl) (by kernel_rfl) (fun _ _ _ h => h) (by kernel_rfl) hS1 ?hy241 ?_
                case hy241 => (intro W hW; clear hW; go_simp; try rfl)
                simp only [Act.put, List.setIfInBounds_toArray, List.set_cons_zero, List.set_cons_succ]
                refine takeInH 16 13 ?v242 rfl rfl (by kernel_rfl) (by kernel_rfl) (by kernel_rfl) (fun _ _ _ h => h) (by kernel_rfl) hS1 ?hy242 ?_
                case hy242 => (intro W hW; clear hW; go_simp; try rfl)
                simp only [Act.put, List.setIfInBounds_toArray, List.set_cons_zero, List.set_cons_succ]
                refine wpAnyH_done (by kernel_rfl) ?_ _
                replace BBU := hide (bel_next BBU.out hS1)
                replace HNA := hide (HNA.out.below hS1)
                replace HNL := hide (HNL.out.below hS1)
                replace HNB := HN9
                replace HCB := HC9
                clear hS1 d0 d1
                generalize hww : wn = u at *
                clear hww
                go_upto_region 17 with fail
                refine wp_region_held_drew (S := fun W => Below u.heap.size u W) (by kernel_rfl) ((Below.refl _ u).drew) (fun hS0 => ?_)
                refine takeInH 1 83 ?v243 rfl rfl (by kernel_rfl) (by kernel_rfl) (by kernel_rfl) (fun _ _ _ h => h) (by kernel_rfl) hS0 ?hy243 ?_
                case hy243 => (intro W hW; clear hW; go_simp; try rfl)
                simp only [Act.put, List.setIfInBounds_toArray, List.set_cons_zero, List.set_cons_succ]
                refine takeInH 2 84 ?v244 rfl rfl (by kernel_rfl) (by kernel_rfl) (by kernel_rfl) (fun _ _ _ h => h) (by kernel_rfl) hS0 ?hy244 ?_
                case hy244 => (intro W hW; clear hW; go_simp; try rfl)
                simp only [Act.put, List.setIfInBounds_toArray, List.set_cons_zero, List.set_cons_succ]
                refine takeInH 3 85 ?v245 rfl rfl (by kernel_rfl) (by kernel_rfl) (by kernel_rfl) (fun _ _ _ h => h) (by kernel_rfl) hS0 ?hy245 ?_
                case hy245 => (intro W hW; clear hW; go_simp; try rfl)
                simp only [Act.put, List.setIfInBounds_toArray, List.set_cons_zero, List.set_cons_succ]
                refine takeInH 5 87 ?v246 rfl rfl (by kernel_rfl) (by kernel_rfl) (by kernel_rfl) (fun _ _ _ h => h) (by kernel_rfl) hS0 ?hy246 ?_
                case hy246 => (intro W hW; clear hW; go_simp; try rfl)
                simp only [Act.put, List.setIfInBounds_toArray, List.set_cons_zero, List.set_cons_succ]
                refine takeInH 6 88 ?v247 rfl rfl (by kernel_rfl) (by kernel_rfl) (by kernel_rfl) (fun _ _ _ h => h) (by kernel_rfl) hS0 ?hy247 ?_
                case hy247 => (intro W hW; clear hW; go_simp; try rfl)
                simp only [Act.put, List.setIfInBounds_toArray, List.set_cons_zero, List.set_cons_succ]
                refine takeInH 7 89 ?v248 rfl rfl (by kernel_rfl) (by kernel_rfl) (by kernel_rfl) (fun _ _ _ h => h) (by kernel_rfl) hS0 ?hy248 ?_
                case hy248 => (intro W hW; clear hW; go_simp; try rfl)
                simp only [Act.put, List.setIfInBounds_toArray, List.set_cons_zero, List.set_cons_succ]
                refine takeInH 8 90 ?v249 rfl rfl (by kernel_rfl) (by kernel_rfl) (by kernel_rfl) (fun _ _ _ h => h) (by kernel_rfl) hS0 ?hy249 ?_
                case hy249 => (intro W hW; clear hW; go_simp; try rfl)
                simp only [Act.put, List.setIfInBounds_toArray, List.set_cons_zero, List.set_cons_succ]
                refine wpAnyH_ready (rs := [0]) (by kernel_rfl) (by simp) ?_
                refine AllReadyH.cons rfl (fun K hK => ?_) AllReadyH.nil
                go_simp
                have BW : Below u.heap.size u (u.alloc (.cells #[] 36)).drew := (bel1 u (.cells #[] 36)).drew
                have OB := hide (show OwnR encC 2 36 u.heap.size (u.alloc (.cells #[] 36)).drew (.slice (some ⟨u.heap.size, 0, none⟩) 0 0) [] from (OwnR.made u u.heap.size u.heap.size rfl (Nat.le_refl _)).drew)
                generalize (u.alloc (.cells #[] 36)).drew = wb at OB BW ⊢
                refine hK.out _ _ ?hs250 (fun hS1 => ?_)
                case hs250 => exact BW
                clear hK K
                try simp only [Act.put, List.setIfInBounds_toArray, List.set_cons_zero, List.set_cons_succ]
                refine wpAnyH_ready (rs := [4]) (by kernel_rfl) (by simp) ?_
                refine AllReadyH.cons rfl (fun K hK => ?_) AllReadyH.nil
                rw [if_pos (by kernel_rfl)]
                refine append_rg _ _ 22 rfl Try.underlying22 Try.infoCel rfl (by decide) (by decide) encC_len encC_one u.heap.size _ [] (L.take nn) rfl OB.out (some ⟨bl0, offl, none⟩) nn cl rfl (fun h => by cases h) ((HNL.out.below hS1).head nn (by omega)) (by have := HLL2.out; rw [List.length_nil, List.length_take]; omega) hS1.size ?_
                intro v5 w5 ho5 hg5 hbel5
                have BS5 := hbel5 _ hS1
                rw [List.nil_append] at ho5
                have O5 := hide ho5
                clear ho5 hbel5 hg5
                change K (Act.put _ (some 86) _) _
                refine hK.out _ _ ?hs251 (fun hS2 => ?_)
                case hs251 => exact BS5
                clear hK K
                try simp only [Act.put, List.setIfInBounds_toArray, List.set_cons_zero, List.set_cons_succ]
                refine wpAnyH_ready (rs := [9]) (by kernel_rfl) (by simp) ?_
                refine AllReadyH.cons rfl (fun K hK => ?_) AllReadyH.nil
                rw [if_pos (by kernel_rfl)]
                refine append_rg _ _ 22 rfl Try.underlying22 Try.infoCel rfl (by decide) (by decide) encC_len encC_one u.heap.size _ (L.take nn) (L.drop (nn + 1)) rfl O5.out (if cl = nn + 1 then some ⟨bl0, offl, none⟩ else some ⟨bl0, offl + (nn + 1) * 2, none⟩) (nL - (nn + 1)) (cl - (nn + 1)) rfl (fun h => by split at h <;> cases h) ((HNL.out.below hS2).rest (nn + 1) (by omega) (by omega)) (by have := HLL2.out; rw [List.length_take, List.length_drop]; omega) hS2.size ?_
                intro v6 w6 ho6 hg6 hbel6
                have BS6 := hbel6 _ hS2
                obtain ⟨p6, c6, hv6, hn6, hc6⟩ := ho6.open encC_len
                have HN6 := hide hn6
                have HC6 := hide hc6
                clear ho6 hbel6 hg6 hn6 hc6
                change K (Act.put _ (some 91) _) _
                refine hK.out _ _ ?hs252 (fun hS3 => ?_)
                case hs252 => exact BS6
                clear hK K
                try simp only [Act.put, List.setIfInBounds_toArray, List.set_cons_zero, List.set_cons_succ]
                refine takeInH 10 7 ?v253 rfl rfl (by kernel_rfl) (by kernel_rfl) (by kernel_rfl) (fun _ _ _ h => h) (by kernel_rfl) hS3 ?hy253 ?_
                case hy253 => (intro W hW; clear hW; go_simp; try rfl)
                simp only [Act.put, List.setIfInBounds_toArray, List.set_cons_zero, List.set_cons_succ]
                refine wpAnyH_done (by kernel_rfl) ?_ _
                subst hv6
                go_wp2
                go_roundw
                case rel => exact ⟨i + 1, p9a, c9a, (addT A k m), p9, c9, (addT B kl ml), p6, c6, L.take nn ++ L.drop (nn + 1), D ++ [(kl, ml)], by omega, by go_num, rfl, rfl, (by first | (rw [List.length_append, List.length_take, List.length_drop]; done) | simp), (show Hid _ from HNA.out.below hS3), (show Hid _ from HNB.out.below hS3), HN6, HC6, (show Hid _ from HCA.out), (show Hid _ from HCB.out), HTA3, HTB3, HPM3, (show Hid _ by unfold Hid; rw [List.length_append, List.length_take, List.length_drop]; have := HLL.out; have := HLL2.out; omega), (show Hid _ from bel_next BBU.out hS3)⟩
                case measure => simp [intOf]; omega
            · have hti1 : ¬ ((i : Int) < (nt : Int)) := by omega
              obtain ⟨nn, hnn, hnL⟩ : ∃ nn : Nat, (0 : Nat) = nn ∧ nn < nL := ⟨0, rfl, by omega⟩
              subst hnn
              obtain ⟨kl, ml, hxl, d0, d1⟩ := HNL.out.at 0 (by omega)
              have HPM3 : Hid ((D ++ [(kl, ml)] ++ (L.take 0 ++ L.drop (0 + 1))).Perm s) := (perm_take hxl).trans HPM.out
              have HTB2 := hide (HTB.out.step (kl, ml) (by have := HPM.out.length_eq; rw [List.length_append, HLEN.out] at this; omega))
              have hnn0 : (0 : Int) ≤ ((0 : Nat) : Int) := by omega
              have hnn1 : ((0 : Nat) : Int) < (nL : Int) := by omega
              have hnn2 : ((0 : Nat) : Int) ≤ (cl : Int) := by omega
              have hnn3 : ((0 : Nat) : Int) + 1 ≤ (nL : Int) := by omega
              have hnn4 : IntKind.i64.wrap (((0 : Nat) : Int) + 1) = ((0 : Nat) : Int) + 1 := by rw [IntKind.wrap_i64]; omega
              have hnn5 : (0 : Int) ≤ ((0 : Nat) : Int) + 1 := by omega
              have hnn6 : (((0 : Nat) : Int) + 1).toNat = 0 + 1 := by omega
              clear hxl
              simp only [Nat.zero_mul, Nat.add_zero] at d0 d1
              have hz1 : (0 : Int) ≤ (cl : Int) := by omega
              have hz2 : (0 : Int) < (nL : Int) := by omega
              have hz3 : (1 : Int) ≤ (nL : Int) := by omega
              have hz4 : (1 : Int) ≤ (cl : Int) := by omega
              have hz5 : IntKind.i64.wrap 1 = 1 := by decide
              rcases hokb : okT (kl, ml) with _ | _
              · have HNOB : Hid ((mayT B && okT (kl, ml)) = false) := by unfold Hid; rw [hokb, Bool.and_false]
                have HTB3 : Hid (TA B (D ++ [(kl, ml)])) := by have := HTB2.out; unfold stepT at this; rw [hokb] at this; exact this
                clear hokb
                go_upto_region 14 with fail
                refine wp_region_held_drew (S := fun W => Below wn.heap.size wn W) (by kernel_rfl) ((Below.refl _ wn).drew) (fun hS0 => ?_)
                refine takeInH 0 65 ?v254 rfl rfl (by kernel_rfl) (by kernel_rfl) (by kernel_rfl) (fun _ _ _ h => h) (by kernel_rfl) hS0 ?hy254 ?_
                case hy254 => (intro W hW; clear hW; go_simp; try rfl)
                simp only [Act.put, List.setIfInBounds_toArray, List.set_cons_zero, List.set_cons_succ]
                refine takeInH 1 66 ?v255 rfl rfl (by kernel_rfl) (by kernel_rfl) (by kernel_rfl) (fun _ _ _ h => h) (by kernel_rfl) hS0 ?hy255 ?_
                case hy255 => (intro W hW; clear hW; go_simp; try rfl)
                simp only [Act.put, List.setIfInBounds_toArray, List.set_cons_zero, List.set_cons_succ]
                refine takeInH 2 67 ?v256 rfl rfl (by kernel_rfl) (by kernel_rfl) (by kernel_rfl) (fun _ _ _ h => h) (by kernel_rfl) hS0 ?hy256 ?_
                case hy256 => (intro W hW; clear hW; go_simp; try rfl)
                simp only [Act.put, List.setIfInBounds_toArray, List.set_cons_zero, List.set_cons_succ]
                refine takeInH 3 68 ?v257 rfl rfl (by kernel_rfl) (by kernel_rfl) (by kernel_rfl) (fun _ _ _ h => h) (by kernel_rfl) hS0 ?hy257 ?_
                case hy257 => (intro W hW; clear hW; go_simp; try rfl)
                simp only [Act.put, List.setIfInBounds_toArray, List.set_cons_zero, List.set_cons_succ]
                refine takeInH 4 69 ?v258 rfl rfl (by kernel_rfl) (by kernel_rfl) (by kernel_rfl) (fun _ _ _ h => h) (by kernel_rfl) hS0 ?hy258 ?_
                case hy258 => (intro W hW; clear hW; go_simp; try rfl)
                simp only [Act.put, List.setIfInBounds_toArray, List.set_cons_zero, List.set_cons_succ]
                refine takeInH 5 70 ?v259 rfl rfl (by kernel_rfl) (by kernel_rfl) (by kernel_rfl) (fun _ _ _ h => h) (by kernel_rfl) hS0 ?hy259 ?_
                case hy259 => (intro W hW; have e0 := bcell hW d0; have e1 := bcell hW d1; clear hW; go_simp; try rfl)
                simp only [Act.put, List.setIfInBounds_toArray, List.set_cons_zero, List.set_cons_succ]
                refine takeInH 6 71 ?v260 rfl rfl (by kernel_rfl) (by kernel_rfl) (by kernel_rfl) (fun _ _ _ h => h) (by kernel_rfl) hS0 ?hy260 ?_
                case hy260 => (intro W hW; clear hW; go_simp; try rfl)
                simp only [Act.put, List.setIfInBounds_toArray, List.set_cons_zero, List.set_cons_succ]
                refine takeInH 7 72 ?v261 rfl rfl (by kernel_rfl) (by kernel_rfl) (by kernel_rfl) (fun _ _ _ h => h) (by kernel_rfl) hS0 ?hy261 ?_
                case hy261 => (intro W hW; clear hW; go_simp; try rfl)
                simp only [Act.put, List.setIfInBounds_toArray, List.set_cons_zero, List.set_cons_succ]
                refine takeInH 8 73 ?v262 rfl rfl (by kernel_rfl) (by kernel_rfl) (by kernel_rfl) (fun _ _ _ h => h) (by kernel_rfl) hS0 ?hy262 ?_
                case hy262 => (intro W hW; clear hW; go_simp; try rfl)
                simp only [Act.put, List.setIfInBounds_toArray, List.set_cons_zero, List.set_cons_succ]
                refine takeInH 9 74 ?v263 rfl rfl (by kernel_rfl) (by kernel_rfl) (by kernel_rfl) (fun _ _ _ h => h) (by kernel_rfl) hS0 ?hy263 ?_
                case hy263 => (intro W hW; clear hW; go_simp; try rfl)
                simp only [Act.put, List.setIfInBounds_toArray, List.set_cons_zero, List.set_cons_succ]
                refine takeInH 10 75 ?v264 rfl rfl (by kernel_rfl) (by kernel_rfl) (by kernel_rfl) (fun _ _ _ h => h) (by kernel_rfl) hS0 ?hy264 ?_
                case hy264 => (intro W hW; have e0 := bcell hW d0; have e1 := bcell hW d1; clear hW; go_simp; try rfl)
                simp only [Act.put, List.setIfInBounds_toArray, List.set_cons_zero, List.set_cons_succ]
                refine wpAnyH_ready (rs := [11]) (by kernel_rfl) (by simp) ?_
                refine AllReadyH.cons rfl (fun K hK => ?_) AllReadyH.nil
                go_simp
                refine (Add10_bad pb nB cb B kl ml _ (HNB.out.below hS0) HNOB.out).mono ?_
                rintro e9 wn ⟨rfl, hb⟩
                refine hK.out _ _ ?hs265 (fun hS1 => ?_)
                case hs265 => exact bel_next hS0 hb
                clear hK K hb
                try simp only [Act.put, List.setIfInBounds_toArray, List.set_cons_zero, List.set_cons_succ]
                refine takeInH 12 64 ?v266 rfl rfl (by kernel_rfl) (by kernel_rfl) (by kernel_rfl) (fun _ _ _ h => h) (by kernel_rfl) hS1 ?hy266 ?_
                case hy266 => (intro W hW; clear hW; go_simp; try rfl)
                simp only [Act.put, List.setIfInBounds_toArray, List.set_cons_zero, List.set_cons_succ]
                refine takeInH 13 77 ?v267 rfl rfl (by kernel_rfl) (by kernel_rfl) (by kernel_rfl) (fun _ _ _ h => h) (by kernel_rfl) hS1 ?hy267 ?_
                case hy267 => (intro W hW; clear hW; go_simp; try rfl)
                simp only [Act.put, List.setIfInBounds_toArray, List.set_cons_zero, List.set_cons_succ]
                refine takeInH 14 78 ?v268 rfl rfl (by kernel_rfl) (by kernel_rfl) (by kernel_rfl) (fun _ _ _ h => h) (by kernel_rfl) hS1 ?hy268 ?_
                case hy268 => (intro W hW; clear hW; go_simp; try rfl)
                simp only [Act.put, List.setIfInBounds_toArray, List.set_cons_zero, List.set_cons_succ]
                refine takeInH 15 12 ?v269 rfl rfl (by kernel_rfl) (by kernel_rfl) (by kernel_rfl) (fun _ _ _ h => h) (by kernel_rfl) hS1 ?hy269 ?_
                case hy269 => (intro W hW; clear hW; go_simp; try rfl)
                simp only [Act.put, List.setIfInBounds_toArray, List.set_cons_zero, List.set_cons_succ]
                refine takeInH 16 13 ?v270 rfl rfl (by kernel_rfl) (by kernel_rfl) (by kernel_rfl) (fun _ _ _ h => h) (by kernel_rfl) hS1 ?hy270 ?_
                case hy270 => (intro W hW; clear hW; go_simp; try rfl)
                simp only [Act.put, List.setIfInBounds_toArray, List.set_cons_zero, List.set_cons_succ]
                refine wpAnyH_done (by kernel_rfl) ?_ _
                replace BBU := hide (bel_next BBU.out hS1)
                replace HNA := hide (HNA.out.below hS1)
                replace HNL := hide (HNL.out.below hS1)
                replace HNB := hide (HNB.out.below hS1)
                skip
                clear hS1 d0 d1
                generalize hww : wn = u at *
                clear hww
                go_upto_region 17 with fail
                refine wp_region_held_drew (S := fun W => Below u.heap.size u W) (by kernel_rfl) ((Below.refl _ u).drew) (fun hS0 => ?_)
                refine takeInH 1 83 ?v271 rfl rfl (by kernel_rfl) (by kernel_rfl) (by kernel_rfl) (fun _ _ _ h => h) (by kernel_rfl) hS0 ?hy271 ?_
                case hy271 => (intro W hW; clear hW; go_simp; try rfl)
                simp only [Act.put, List.setIfInBounds_toArray, List.set_cons_zero, List.set_cons_succ]
                refine takeInH 2 84 ?v272 rfl rfl (by kernel_rfl) (by kernel_rfl) (by kernel_rfl) (fun _ _ _ h => h) (by kernel_rfl) hS0 ?hy272 ?_
                case hy272 => (intro W hW; clear hW; go_simp; try rfl)
                simp only [Act.put, List.setIfInBounds_toArray, List.set_cons_zero, List.set_cons_succ]
                refine takeInH 3 85 ?v273 rfl rfl (by kernel_rfl) (by kernel_rfl) (by kernel_rfl) (fun _ _ _ h => h) (by kernel_rfl) hS0 ?hy273 ?_
                case hy273 => (intro W hW; clear hW; go_simp; try rfl)
                simp only [Act.put, List.setIfInBounds_toArray, List.set_cons_zero, List.set_cons_succ]
                refine takeInH 5 87 ?v274 rfl rfl (by kernel_rfl) (by kernel_rfl) (by kernel_rfl) (fun _ _ _ h => h) (by kernel_rfl) hS0 ?hy274 ?_
                case hy274 => (intro W hW; clear hW; go_simp; try rfl)
                simp only [Act.put, List.setIfInBounds_toArray, List.set_cons_zero, List.set_cons_succ]
                refine takeInH 6 88 ?v275 rfl rfl (by kernel_rfl) (by kernel_rfl) (by kernel_rfl) (fun _ _ _ h => h) (by kernel_rfl) hS0 ?hy275 ?_
                case hy275 => (intro W hW; clear hW; go_simp; try rfl)
                simp only [Act.put, List.setIfInBounds_toArray, List.set_cons_zero, List.set_cons_succ]
                refine takeInH 7 89 ?v276 rfl rfl (by kernel_rfl) (by kernel_rfl) (by kernel_rfl) (fun _ _ _ h => h) (by kernel_rfl) hS0 ?hy276 ?_
                case hy276 => (intro W hW; clear hW; go_simp; try rfl)
                simp only [Act.put, List.setIfInBounds_toArray, List.set_cons_zero, List.set_cons_succ]
                refine takeInH 8 90 ?v277 rfl rfl (by kernel_rfl) (by kernel_rfl) (by kernel_rfl) (fun _ _ _ h => h) (by kernel_rfl) hS0 ?hy277 ?_
                case hy277 => (intro W hW; clear hW; go_simp; try rfl)
                simp only [Act.put, List.setIfInBounds_toArray, List.set_cons_zero, List.set_cons_succ]
                refine wpAnyH_ready (rs := [0]) (by kernel_rfl) (by simp) ?_
                refine AllReadyH.cons rfl (fun K hK => ?_) AllReadyH.nil
                go_simp
                have BW : Below u.heap.size u (u.alloc (.cells #[] 36)).drew := (bel1 u (.cells #[] 36)).drew
                have OB := hide (show OwnR encC 2 36 u.heap.size (u.alloc (.cells #[] 36)).drew (.slice (some ⟨u.heap.size, 0, none⟩) 0 0) [] from (OwnR.made u u.heap.size u.heap.size rfl (Nat.le_refl _)).drew)
                generalize (u.alloc (.cells #[] 36)).drew = wb at OB BW ⊢
                refine hK.out _ _ ?hs278 (fun hS1 => ?_)
                case hs278 => exact BW
                clear hK K
                try simp only [Act.put, List.setIfInBounds_toArray, List.set_cons_zero, List.set_cons_succ]
                refine wpAnyH_ready (rs := [4]) (by kernel_rfl) (by simp) ?_
                refine AllReadyH.cons rfl (fun K hK => ?_) AllReadyH.nil
                rw [if_pos (by kernel_rfl)]
                refine append_rg _ _ 22 rfl Try.underlying22 Try.infoCel rfl (by decide) (by decide) encC_len encC_one u.heap.size _ [] (L.take 0) rfl OB.out (some ⟨bl0, offl, none⟩) 0 cl rfl (fun h => by cases h) ((HNL.out.below hS1).head 0 (by omega)) (by have := HLL2.out; rw [List.length_nil, List.length_take]; omega) hS1.size ?_
                intro v5 w5 ho5 hg5 hbel5
                have BS5 := hbel5 _ hS1
                rw [List.nil_append] at ho5
                have O5 := hide ho5
                clear ho5 hbel5 hg5
                change K (Act.put _ (some 86) _) _
                refine hK.out _ _ ?hs279 (fun hS2 => ?_)
                case hs279 => exact BS5
                clear hK K
                try simp only [Act.put, List.setIfInBounds_toArray, List.set_cons_zero, List.set_cons_succ]
                refine wpAnyH_ready (rs := [9]) (by kernel_rfl) (by simp) ?_
                refine AllReadyH.cons rfl (fun K hK => ?_) AllReadyH.nil
                rw [if_pos (by kernel_rfl)]
                refine append_rg _ _ 22 rfl Try.underlying22 Try.infoCel rfl (by decide) (by decide) encC_len encC_one u.heap.size _ (L.take 0) (L.drop (0 + 1)) rfl O5.out (if cl = 0 + 1 then some ⟨bl0, offl, none⟩ else some ⟨bl0, offl + (0 + 1) * 2, none⟩) (nL - (0 + 1)) (cl - (0 + 1)) rfl (fun h => by split at h <;> cases h) ((HNL.out.below hS2).rest (0 + 1) (by omega) (by omega)) (by have := HLL2.out; rw [List.length_take, List.length_drop]; omega) hS2.size ?_
                intro v6 w6 ho6 hg6 hbel6
                have BS6 := hbel6 _ hS2
                obtain ⟨p6, c6, hv6, hn6, hc6⟩ := ho6.open encC_len
                have HN6 := hide hn6
                have HC6 := hide hc6
                clear ho6 hbel6 hg6 hn6 hc6
                change K (Act.put _ (some 91) _) _
                refine hK.out _ _ ?hs280 (fun hS3 => ?_)
                case hs280 => exact BS6
                clear hK K
                try simp only [Act.put, List.setIfInBounds_toArray, List.set_cons_zero, List.set_cons_succ]
                refine takeInH 10 7 ?v281 rfl rfl (by kernel_rfl) (by kernel_rfl) (by kernel_rfl) (fun _ _ _ h => h) (by kernel_rfl) hS3 ?hy281 ?_
                case hy281 => (intro W hW; clear hW; go_simp; try rfl)
                simp only [Act.put, List.setIfInBounds_toArray, List.set_cons_zero, List.set_cons_succ]
                refine wpAnyH_done (by kernel_rfl) ?_ _
                subst hv6
                go_wp2
                go_roundw
                case rel => exact ⟨i + 1, p9a, c9a, (addT A k m), pb, cb, B, p6, c6, L.take 0 ++ L.drop (0 + 1), D ++ [(kl, ml)], by omega, by go_num, rfl, (by rw [HLB.out]), (by first | (rw [List.length_append, List.length_take, List.length_drop]; done) | simp), (show Hid _ from HNA.out.below hS3), (show Hid _ by rw [HLB.out]; exact HNB.out.below hS3), HN6, HC6, (show Hid _ from HCA.out), (show Hid _ by rw [HLB.out]; exact HCB.out), HTA3, HTB3, HPM3, (show Hid _ by unfold Hid; rw [List.length_append, List.length_take, List.length_drop]; have := HLL.out; have := HLL2.out; omega), (show Hid _ from bel_next BBU.out hS3)⟩
                case measure => simp [intOf]; omega
              · have HOB := hide hokb
                have HTB3 : Hid (TA (addT B kl ml) (D ++ [(kl, ml)])) := by have := HTB2.out; unfold stepT at this; rw [if_pos hokb] at this; exact this
                have HMB : Hid (mayT (addT B kl ml) = true) := HTB3.out.may
                clear hokb
                go_upto_region 14 with fail
                refine wp_region_held_drew (S := fun W => Below wn.heap.size wn W) (by kernel_rfl) ((Below.refl _ wn).drew) (fun hS0 => ?_)
                refine takeInH 0 65 ?v282 rfl rfl (by kernel_rfl) (by kernel_rfl) (by kernel_rfl) (fun _ _ _ h => h) (by kernel_rfl) hS0 ?hy282 ?_
                case hy282 => (intro W hW; clear hW; go_simp; try rfl)
                simp only [Act.put, List.setIfInBounds_toArray, List.set_cons_zero, List.set_cons_succ]
                refine takeInH 1 66 ?v283 rfl rfl (by kernel_rfl) (by kernel_rfl) (by kernel_rfl) (fun _ _ _ h => h) (by kernel_rfl) hS0 ?hy283 ?_
                case hy283 => (intro W hW; clear hW; go_simp; try rfl)
                simp only [Act.put, List.setIfInBounds_toArray, List.set_cons_zero, List.set_cons_succ]
                refine takeInH 2 67 ?v284 rfl rfl (by kernel_rfl) (by kernel_rfl) (by kernel_rfl) (fun _ _ _ h => h) (by kernel_rfl) hS0 ?hy284 ?_
                case hy284 => (intro W hW; clear hW; go_simp; try rfl)
                simp only [Act.put, List.setIfInBounds_toArray, List.set_cons_zero, List.set_cons_succ]
                refine takeInH 3 68 ?v285 rfl rfl (by kernel_rfl) (by kernel_rfl) (by kernel_rfl) (fun _ _ _ h => h) (by kernel_rfl) hS0 ?hy285 ?_
                case hy285 => (intro W hW; clear hW; go_simp; try rfl)
                simp only [Act.put, List.setIfInBounds_toArray, List.set_cons_zero, List.set_cons_succ]
                refine takeInH 4 69 ?v286 rfl rfl (by kernel_rfl) (by kernel_rfl) (by kernel_rfl) (fun _ _ _ h => h) (by kernel_rfl) hS0 ?hy286 ?_
                case hy286 => (intro W hW; clear hW; go_simp; try rfl)
                simp only [Act.put, List.setIfInBounds_toArray, List.set_cons_zero, List.set_cons_succ]
                refine takeInH 5 70 ?v287 rfl rfl (by kernel_rfl) (by kernel_rfl) (by kernel_rfl) (fun _ _ _ h => h) (by kernel_rfl) hS0 ?hy287 ?_
                case hy287 => (intro W hW; have e0 := bcell hW d0; have e1 := bcell hW d1; clear hW; go_simp; try rfl)
                simp only [Act.put, List.setIfInBounds_toArray, List.set_cons_zero, List.set_cons_succ]
                refine takeInH 6 71 ?v288 rfl rfl (by kernel_rfl) (by kernel_rfl) (by kernel_rfl) (fun _ _ _ h => h) (by kernel_rfl) hS0 ?hy288 ?_
                case hy288 => (intro W hW; clear hW; go_simp; try rfl)
                simp only [Act.put, List.setIfInBounds_toArray, List.set_cons_zero, List.set_cons_succ]
                refine takeInH 7 72 ?v289 rfl rfl (by kernel_rfl) (by kernel_rfl) (by kernel_rfl) (fun _ _ _ h => h) (by kernel_rfl) hS0 ?hy289 ?_
                case hy289 => (intro W hW; clear hW; go_simp; try rfl)
                simp only [Act.put, List.setIfInBounds_toArray, List.set_cons_zero, List.set_cons_succ]
                refine takeInH 8 73 ?v290 rfl rfl (by kernel_rfl) (by kernel_rfl) (by kernel_rfl) (fun _ _ _ h => h) (by kernel_rfl) hS0 ?hy290 ?_
                case hy290 => (intro W hW; clear hW; go_simp; try rfl)
                simp only [Act.put, List.setIfInBounds_toArray, List.set_cons_zero, List.set_cons_succ]
                refine takeInH 9 74 ?v291 rfl rfl (by kernel_rfl) (by kernel_rfl) (by kernel_rfl) (fun _ _ _ h => h) (by kernel_rfl) hS0 ?hy291 ?_
                case hy291 => (intro W hW; clear hW; go_simp; try rfl)
                simp only [Act.put, List.setIfInBounds_toArray, List.set_cons_zero, List.set_cons_succ]
                refine takeInH 10 75 ?v292 rfl rfl (by kernel_rfl) (by kernel_rfl) (by kernel_rfl) (fun _ _ _ h => h) (by kernel_rfl) hS0 ?hy292 ?_
                case hy292 => (intro W hW; have e0 := bcell hW d0; have e1 := bcell hW d1; clear hW; go_simp; try rfl)
                simp only [Act.put, List.setIfInBounds_toArray, List.set_cons_zero, List.set_cons_succ]
                refine wpAnyH_ready (rs := [11]) (by kernel_rfl) (by simp) ?_
                refine AllReadyH.cons rfl (fun K hK => ?_) AllReadyH.nil
                go_simp
                refine (Add10_good pb nB cb B kl ml _ (HNB.out.below hS0) HTB.out.may HOB.out HMB.out HCB.out).mono ?_
                rintro e9 wn ⟨p9, c9, rfl, hn9, hc9, hb⟩
                have HN9 := hide hn9
                have HC9 := hide hc9
                clear hn9 hc9
                refine hK.out _ _ ?hs293 (fun hS1 => ?_)
                case hs293 => exact bel_next hS0 hb
                clear hK K hb
                try simp only [Act.put, List.setIfInBounds_toArray, List.set_cons_zero, List.set_cons_succ]
                refine takeInH 12 64 ?v294 rfl rfl (by kernel_rfl) (by kernel_rfl) (by kernel_rfl) (fun _ _ _ h => h) (by kernel_rfl) hS1 ?hy294 ?_
                case hy294 => (intro W hW; clear hW; go_simp; try rfl)
                simp only [Act.put, List.setIfInBounds_toArray, List.set_cons_zero, List.set_cons_succ]
                refine takeInH 13 77 ?v295 rfl rfl (by kernel_rfl) (by kernel_rfl) (by kernel_rfl) (fun _ _ _ h => h) (by kernel_rfl) hS1 ?hy295 ?_
                case hy295 => (intro W hW; clear hW; go_simp; try rfl)
                simp only [Act.put, List.setIfInBounds_toArray, List.set_cons_zero, List.set_cons_succ]
                refine takeInH 14 78 ?v296 rfl rfl (by kernel_rfl) (by kernel_rfl) (by kernel_rfl) (fun _ _ _ h => h) (by kernel_rfl) hS1 ?hy296 ?_
                case hy296 => (intro W hW; clear hW; go_simp; try rfl)
                simp only [Act.put, List.setIfInBounds_toArray, List.set_cons_zero, List.set_cons_succ]
                refine takeInH 15 12 ?v297 rfl rfl (by kernel_rfl) (by kernel_rfl) (by kernel_rfl) (fun _ _ _ h => h) (by kernel_rfl) hS1 ?hy297 ?_
                case hy297 => (intro W hW; clear hW; go_simp; try rfl)
                simp only [Act.put, List.setIfInBounds_toArray, List.set_cons_zero, List.set_cons_succ]
                refine takeInH 16 13 ?v298 rfl rfl (by kernel_rfl) (by kernel_rfl) (by kernel_rfl) (fun _ _ _ h => h) (by kernel_rfl) hS1 ?hy298 ?_
                case hy298 => (intro W hW; clear hW; go_simp; try rfl)
                simp only [Act.put, List.setIfInBounds_toArray, List.set_cons_zero, List.set_cons_succ]
                refine wpAnyH_done (by kernel_rfl) ?_ _
                replace BBU := hide (bel_next BBU.out hS1)
                replace HNA := hide (HNA.out.below hS1)
                replace HNL := hide (HNL.out.below hS1)
                replace HNB := HN9
                replace HCB := HC9
                clear hS1 d0 d1
                generalize hww : wn = u at *
                clear hww
                go_upto_region 17 with fail
                refine wp_region_held_drew (S := fun W => Below u.heap.size u W) (by kernel_rfl) ((Below.refl _ u).drew) (fun hS0 => ?_)
                refine takeInH 1 83 ?v299 rfl rfl (by kernel_rfl) (by kernel_rfl) (by kernel_rfl) (fun _ _ _ h => h) (by kernel_rfl) hS0 ?hy299 ?_
                case hy299 => (intro W hW; clear hW; go_simp; try rfl)
                simp only [Act.put, List.setIfInBounds_toArray, List.set_cons_zero, List.set_cons_succ]
                refine takeInH 2 84 ?v300 rfl rfl (by kernel_rfl) (by kernel_rfl) (by kernel_rfl) (fun _ _ _ h => h) (by kernel_rfl) hS0 ?hy300 ?_
                case hy300 => (intro W hW; clear hW; go_simp; try rfl)
                simp only [Act.put, List.setIfInBounds_toArray, List.set_cons_zero, List.set_cons_succ]
                refine takeInH 3 85 ?v301 rfl rfl (by kernel_rfl) (by kernel_rfl) (by kernel_rfl) (fun _ _ _ h => h) (by kernel_rfl) hS0 ?hy301 ?_
                case hy301 => (intro W hW; clear hW; go_simp; try rfl)
                simp only [Act.put, List.setIfInBounds_toArray, List.set_cons_zero, List.set_cons_succ]
                refine takeInH 5 87 ?v302 rfl rfl (by kernel_rfl) (by kernel_rfl) (by kernel_rfl) (fun _ _ _ h => h) (by kernel_rfl) hS0 ?hy302 ?_
                case hy302 => (intro W hW; clear hW; go_simp; try rfl)
                simp only [Act.put, List.setIfInBounds_toArray, List.set_cons_zero, List.set_cons_succ]
                refine takeInH 6 88 ?v303 rfl rfl (by kernel_rfl) (by kernel_rfl) (by kernel_rfl) (fun _ _ _ h => h) (by kernel_rfl) hS0 ?hy303 ?_
                case hy303 => (intro W hW; clear hW; go_simp; try rfl)
                simp only [Act.put, List.setIfInBounds_toArray, List.set_cons_zero, List.set_cons_succ]
                refine takeInH 7 89 ?v304 rfl rfl (by kernel_rfl) (by kernel_rfl) (by kernel_rfl) (fun _ _ _ h => h) (by kernel_rfl) hS0 ?hy304 ?_
                case hy304 => (intro W hW; clear hW; go_simp; try rfl)
                simp only [Act.put, List.setIfInBounds_toArray, List.set_cons_zero, List.set_cons_succ]
                refine takeInH 8 90 ?v305 rfl rfl (by kernel_rfl) (by kernel_rfl) (by kernel_rfl) (fun _ _ _ h => h) (by kernel_rfl) hS0 ?hy305 ?_
                case hy305 => (intro W hW; clear hW; go_simp; try rfl)
                simp only [Act.put, List.setIfInBounds_toArray, List.set_cons_zero, List.set_cons_succ]
                refine wpAnyH_ready (rs := [0]) (by kernel_rfl) (by simp) ?_
                refine AllReadyH.cons rfl (fun K hK => ?_) AllReadyH.nil
                go_simp
                have BW : Below u.heap.size u (u.alloc (.cells #[] 36)).drew := (bel1 u (.cells #[] 36)).drew
                have OB := hide (show OwnR encC 2 36 u.heap.size (u.alloc (.cells #[] 36)).drew (.slice (some ⟨u.heap.size, 0, none⟩) 0 0) [] from (OwnR.made u u.heap.size u.heap.size rfl (Nat.le_refl _)).drew)
                generalize (u.alloc (.cells #[] 36)).drew = wb at OB BW ⊢
                refine hK.out _ _ ?hs306 (fun hS1 => ?_)
                case hs306 => exact BW
                clear hK K
                try simp only [Act.put, List.setIfInBounds_toArray, List.set_cons_zero, List.set_cons_succ]
                refine wpAnyH_ready (rs := [4]) (by kernel_rfl) (by simp) ?_
                refine AllReadyH.cons rfl (fun K hK => ?_) AllReadyH.nil
                rw [if_pos (by kernel_rfl)]
                refine append_rg _ _ 22 rfl Try.underlying22 Try.infoCel rfl (by decide) (by decide) encC_len encC_one u.heap.size _ [] (L.take 0) rfl OB.out (some ⟨bl0, offl, none⟩) 0 cl rfl (fun h => by cases h) ((HNL.out.below hS1).head 0 (by omega)) (by have := HLL2.out; rw [List.length_nil, List.length_take]; omega) hS1.size ?_
                intro v5 w5 ho5 hg5 hbel5
                have BS5 := hbel5 _ hS1
                rw [List.nil_append] at ho5
                have O5 := hide ho5
                clear ho5 hbel5 hg5
                change K (Act.put _ (some 86) _) _
                refine hK.out _ _ ?hs307 (fun hS2 => ?_)
                case hs307 => exact BS5
                clear hK K
                try simp only [Act.put, List.setIfInBounds_toArray, List.set_cons_zero, List.set_cons_succ]
                refine wpAnyH_ready (rs := [9]) (by kernel_rfl) (by simp) ?_
                refine AllReadyH.cons rfl (fun K hK => ?_) AllReadyH.nil
                rw [if_pos (by kernel_rfl)]
                refine append_rg _ _ 22 rfl Try.underlying22 Try.infoCel rfl (by decide) (by decide) encC_len encC_one u.heap.size _ (L.take 0) (L.drop (0 + 1)) rfl O5.out (if cl = 0 + 1 then some ⟨bl0, offl, none⟩ else some ⟨bl0, offl + (0 + 1) * 2, none⟩) (nL - (0 + 1)) (cl - (0 + 1)) rfl (fun h => by split at h <;> cases h) ((HNL.out.below hS2).rest (0 + 1) (by omega) (by omega)) (by have := HLL2.out; rw [List.length_take, List.length_drop]; omega) hS2.size ?_
                intro v6 w6 ho6 hg6 hbel6
                have BS6 := hbel6 _ hS2
                obtain ⟨p6, c6, hv6, hn6, hc6⟩ := ho6.open encC_len
                have HN6 := hide hn6
                have HC6 := hide hc6
                clear ho6 hbel6 hg6 hn6 hc6
                change K (Act.put _ (some 91) _) _
                refine hK.out _ _ ?hs308 (fun hS3 => ?_)
                case hs308 => exact BS6
                clear hK K
                try simp only [Act.put, List.setIfInBounds_toArray, List.set_cons_zero, List.set_cons_succ]
                refine takeInH 10 7 ?v309 rfl rfl (by kernel_rfl) (by kernel_rfl) (by kernel_rfl) (fun _ _ _ h => h) (by kernel_rfl) hS3 ?hy309 ?_
                case hy309 => (intro W hW; clear hW; go_simp; try rfl)
                simp only [Act.put, List.setIfInBounds_toArray, List.set_cons_zero, List.set_cons_succ]
                refine wpAnyH_done (by kernel_rfl) ?_ _
                subst hv6
                go_wp2
                go_roundw
                case rel => exact ⟨i + 1, p9a, c9a, (addT A k m), p9, c9, (addT B kl ml), p6, c6, L.take 0 ++ L.drop (0 + 1), D ++ [(kl, ml)], by omega, by go_num, rfl, rfl, (by first | (rw [List.length_append, List.length_take, List.length_drop]; done) | simp), (show Hid _ from HNA.out.below hS3), (show Hid _ from HNB.out.below hS3), HN6, HC6, (show Hid _ from HCA.out), (show Hid _ from HCB.out), HTA3, HTB3, HPM3, (show Hid _ by unfold Hid; rw [List.length_append, List.length_take, List.length_drop]; have := HLL.out; have := HLL2.out; omega), (show Hid _ from bel_next BBU.out hS3)⟩
                case measure => simp [intOf]; omega
        · obtain rfl : i = n := by omega
          have HL0 : Hid (L = []) := List.eq_nil_of_length_eq_zero (by have := HLL.out; omega)
          have HEQ : Hid (A = B) := by
            have hp := HPM.out
            rw [HL0.out, List.append_nil] at hp
            have ha := HTA.out
            rw [← HLEN.out, List.take_length] at ha
            exact ha.meet HTB.out hp.symm
          rw [← HEQ.out] at HNB HCB ⊢
          replace BB := hide (bel_next BB.out BBU.out)
          generalize A.length = nA at *
          go_wp2_with (go_at_call 16; refine (Same10_any pa nA ca A pb nA cb A _ HNA.out HNB.out).mono ?_; rintro e w7 ⟨rfl, hb⟩; rw [decide_eq_true (rfl : A = A)]; replace HNA := hide (HNA.out.below hb); replace HNB := hide (HNB.out.below hb); replace BB := hide (bel_next BB.out hb); clear hb; refine Stop.at ?_)
          unfold Stop
          go_wp2_with (first | (go_at_call 14; refine (Same10_ref pa nA ca A pb nA cb A _ HNA.out HNB.out).mono ?_; rintro e w8 ⟨rfl, hb⟩; rw [decide_eq_true (rfl : A = A)]; replace BB := hide (bel_next BB.out hb); clear hb) | (go_at_call 7; refine (awake10 _).mono ?_; rintro e wz ⟨rfl, hb⟩))
          go_ret
          exact ⟨rfl, bel_next BB.out hb⟩
    · go_wp2_with (go_at_call 7; refine (awake10 _).mono ?_; rintro e wz ⟨rfl, hb⟩)
      go_ret
      exact ⟨rfl, bel_next BB.out hb⟩

/-! ### The row's step -/
set_option maxRecDepth 100000 in
theorem lifted (os : Os) (started : os.Started) (H : Type) (enc : TypeId × Value → H) :
    ReturnsInHanded {} Try.checked os 4 .any (Rows.tallyOrdersSpec.pre6 enc Try.prog Try.f4 Rows.tallyOrdersRow.domain false) (Rows.tallyOrdersSpec.post enc Try.prog Try.f4 false true false false) := by
  refine returnsInHanded_of_change_sized (C := Try.checked) own started (by kernel_rfl) Try.func4
    (ChangeSpec.witness6 (enc := enc) (C := Try.checked) false ⟨#[], #[.slice none 0 0, .slice none 0 0], []⟩ 8 (by kernel_rfl) (by kernel_rfl) (by kernel_rfl) (by kernel_rfl)) ?_
  intro W base args ds gs before hval0 hW hcnd hz0 _
  have hval : ∀ (j : Nat) t v, Try.f4.params[j]? = some t → args[j]? = some v → Value.okWide Try.prog W .any base t v := hval0
  have hz : (DataW.weightsEach Try.prog (Try.f4.params.toList ++ Rows.tallyOrdersSpec.plain.varTypes Try.prog) (ds ++ gs)).all (· ≤ reachBytes) = true := hz0
  have hW' := hW
  obtain ⟨p, q, hA0, hV, rfl, hfz, hnd⟩ := hW
  have hA : DataW.TrodAll enc Try.prog W 0 (fun _ => true) true Try.f4.params.toList args.toList ds p := hA0
  rw [Try.params4] at hA hval hz
  obtain ⟨v0, vs0, d0, ds0, p0, q0, hargs, rfl, rfl, h0, r0⟩ := trodAll_cons hA
  obtain ⟨v1, vs1, d1, ds1, p1, q1, rfl, rfl, rfl, h1, r1⟩ := trodAll_cons r0
  obtain ⟨rfl, rfl, rfl⟩ := trodAll_nil r1
  obtain rfl : args = #[v0, v1] := by cases args; simp_all
  obtain ⟨rfl, rfl⟩ := trodVars_none hV
  have k0 := h0
  have lt0 : ∀ x ∈ p0, x.block < W.heap.size := by obtain ⟨m, hm⟩ := k0; exact DataW.trod_lt m _ _ _ hm
  have w0 : InTs W v0 := in_cells (hval 0 22 v0 rfl rfl) h0 (fun n hn => by have := List.all_eq_true.1 hz n (DataW.weights_mem_each (j := 0) (t := 22) rfl rfl n hn); simpa using this)
  have k1 := h1
  have lt1 : ∀ x ∈ p1, x.block < W.heap.size := by obtain ⟨m, hm⟩ := k1; exact DataW.trod_lt m _ _ _ hm
  have w1 : InU W v1 := in_u8s (hval 1 34 v1 rfl rfl) h1 (fun n hn => by have := List.all_eq_true.1 hz n (DataW.weights_mem_each (j := 1) (t := 34) rfl rfl n hn); simpa using this)
  clear hA0 hval0 hz0
  refine (walk v0 v1 W w0 w1).mono fun e W' ⟨he, bel⟩ => ?_
  subst he
  exact ⟨_, rfl, _, _, _, [], _, [], hW', trodAll_mk1 (shut_bool Try.underlying4 _), (trodAll_cons_mk (Below.trod laidOut (by kernel_rfl) (of_decide_eq_true (by kernel_rfl)) k0 bel lt0) (trodAll_cons_mk (Below.trod laidOut (by kernel_rfl) (of_decide_eq_true (by kernel_rfl)) k1 bel lt1) trodAll_mk0)), rfl, bel.frame _, fun h => by cases h⟩

theorem over : Rows.tallyOrdersRow.holds Try.pinned (OpenSpec.ofChange Rows.tallyOrdersSpec) :=
  OpenClaim.holds_of_wide 4 Try.f4 rfl rfl rfl rfl rfl rfl rfl ⟨rfl, rfl, rfl, rfl, rfl⟩ rfl rfl rfl rfl rfl (by kernel_rfl) Try.func4 (by kernel_rfl)
    (of_decide_eq_true (by kernel_rfl)) (by unfold Func.isWrapper; first | (rw [if_pos (by decide +kernel)]; kernel_rfl) | (rw [if_neg (by decide +kernel)]; exact ⟨rfl, rfl⟩))
    (fun os started H enc _ => lifted os started H enc)
end Go.Proofs.Ytmleajocdooihaa.tallyOrders
namespace Go.Proofs.Ytmleajocdooihaa
theorem tallyOrders_holds : Rows.TallyOrdersSaid := tallyOrders.over
end Go.Proofs.Ytmleajocdooihaa
