/- No rights are below 0 anywhere, nor is the number below the floor. -/
import Derived.Test.YtbihgcmnllajpaaRows
import Derived.WalkKit
import Derived.ProofKit
import Derived.OpenShut
import Derived.ShutString
import Derived.ChangeOld
import Derived.Below
import Derived.SizedLaws
import Derived.Test.YtbihgcmnllajpaaGEh
import Derived.Great.Walk
import Derived.Great.BuildSlice
namespace Go.Proofs.Ytbihgcmnllajpaa.escrowHolds
open Go.ChangeShapes Go.WideShapes Go.ChangeAt Go.RowKit
set_option linter.unusedVariables false

theorem own : ownKnob Try.prog.godebug = none := by kernel_rfl
theorem laidOut : laidOutB Try.prog = true := by kernel_rfl

set_option maxRecDepth 4000 in
set_option maxHeartbeats 32000000 in
theorem walk (v0 : Value) (a1 : Int) (w : World) (w0 : InSp11 w v0) (w1 : (Lit.int .u8 a1).wf = true) :
    Calls Try.prog 5 #[v0, .int .u8 a1] w fun e w' => e = .returned (.bool true) ∧ Below w.heap.size w w' := by
  obtain ⟨a, n, cap, s, rfl, hA, hcp⟩ := w0
  have hu : 0 ≤ a1 ∧ a1 < 256 := by simp [Lit.wf, IntKind.min, IntKind.max, IntKind.bits, IntKind.signed] at w1; omega
  obtain ⟨z, hz⟩ : ∃ z : Int, Int.tmod a1 20 = z := ⟨_, rfl⟩
  have hzb : 0 ≤ z ∧ z ≤ 19 := by rw [← hz, Int.tmod_eq_emod_of_nonneg hu.1]; omega
  obtain ⟨lo, hlo⟩ : ∃ lo : Int, -z = lo := ⟨_, rfl⟩
  have hlb : -19 ≤ lo ∧ lo ≤ 0 := by omega
  have hc0 : IntKind.u8.wrap z = z := by simp [IntKind.wrap, IntKind.bits, IntKind.signed]; omega
  have hc1 : IntKind.i64.wrap z = z := by rw [IntKind.wrap_i64]; omega
  have hc2 : IntKind.i64.wrap (-z) = lo := by rw [IntKind.wrap_i64]; omega
  have HLO : Hid (-1000 ≤ lo ∧ lo ≤ 0) := (show _ ∧ _ by omega)
  have HV := hide hA
  have HLEN := hide hA.1
  clear hlo w1 hu hzb hlb hA hcp
  have HM0 : Hid (HM w.heap.size w (((w.alloc (.cells #[] 24)).alloc (.cells #[] 3)).alloc (.cells (cells36 (fun _ _ => 0)) 44)) (w.heap.size + 1 + 1) [] (fun _ _ => 0) (.slice (some ⟨w.heap.size, 0, none⟩) 0 0) (.slice (some ⟨w.heap.size + 1, 0, none⟩) 0 0)) := by
    refine ⟨((OwnR.made w _ _ rfl (Nat.le_refl _)).alloc _).alloc _, (OwnR.made (w.alloc (.cells #[] 24)) _ _ (by simp) (by simp)).alloc _, ?_, ?_, by omega⟩
    · exact BX.new ((w.alloc (.cells #[] 24)).alloc (.cells #[] 3)) (w.heap.size + 1 + 1) (by simp) _ _
    · exact (bel2 w _ _).alloc (by simp; omega) _
  have HE0 : Hid (EI (baseA lo) [] (fun _ _ => 0)) := EI.nil (fun j => baseA_pos HLO.out.2 j)
  go_enter Try.func5, Try.ntmps5
  by_cases hn : (n : Int) ≤ 24
  · have HSZ : Hid (((w.alloc (.cells #[] 24)).alloc (.cells #[] 3)).heap.size = w.heap.size + 1 + 1) := (by simp : ((w.alloc (.cells #[] 24)).alloc (.cells #[] 3)).heap.size = w.heap.size + 1 + 1)
    go_upto_region 6 with fail
    generalize (w.alloc (.cells #[] 24)).alloc (.cells #[] 3) = u2 at *
    refine wp_region_list ?_
    refine wpList_buildTo rfl 44 #[] rfl (some 27) rfl (cells36 (fun _ _ => 0)) (by kernel_rfl) ?_
    refine Great.wpList_allocTo rfl (some 8) rfl (.pointer (some ⟨u2.heap.size, 0, none⟩)) (.cells (cells36 (fun _ _ => 0)) 44) (by kernel_rfl) ?_
    refine wpList_store_rowTo rfl 44 _ _ rfl rfl u2.heap.size (cells36 (fun _ _ => 0)) (by kernel_rfl) (by kernel_rfl) 44 (cells36 (fun _ _ => 0)) (heap_alloc_new u2 _) (by kernel_rfl) rfl (by kernel_rfl) ?_
    rw [World.setRow_alloc_new, HSZ.out]
    refine wpList_nil ?_
    generalize u2.alloc (.cells (cells36 (fun _ _ => 0)) 44) = u3 at *
    simp only [Act.put, List.setIfInBounds_toArray, List.set_cons_zero, List.set_cons_succ]
    clear HSZ
    go_wp2
    clear hz hc0 hc1 hc2
    go_loopw [6, 7, 9] (fun U6 U7 v wr => ∃ (i : Nat) (L : List Gd) (K : Nat → Nat → Nat) (p6 : Option Addr) (c6 : Nat) (p7 : Option Addr) (c7 : Nat), i ≤ n ∧ v = .int .i64 i ∧ U6 = .slice p6 L.length c6 ∧ U7 = .slice p7 L.length c7 ∧ Hid (EI (baseA lo) L K) ∧ Hid (WfG L) ∧ Hid (L.length ≤ i) ∧ Hid (HM w.heap.size w wr (w.heap.size + 1 + 1) L (K) (.slice p6 L.length c6) (.slice p7 L.length c7))) (fun _ _ v _ => n - (intOf v).toNat)
    case atStart => exact ⟨0, [], fun _ _ => 0, _, 0, _, 0, by omega, rfl, rfl, rfl, HE0, WfG.nil, Nat.le_refl _, HM0⟩
    case round =>
      clear HM0 HE0
      obtain ⟨i, L, K, p6, c6, p7, c7, hi, rfl, rfl, rfl, HE, HWF, HLI, HMM⟩ := hrel
      by_cases hlt : i < n
      · obtain ⟨b, off, rfl⟩ := rs_addr HV.out (by omega)
        obtain ⟨x, hx, x0, x1, x2, x3, x4⟩ := (show SPS wr (some ⟨b, off, none⟩) n s from RS.below HV.out HMM.out.bl).at i hlt
        obtain ⟨xr, xs, xk, xt, xn⟩ := x
        have hi0 : (0 : Int) ≤ (i : Int) := by omega
        have hi1 : (i : Int) < (n : Int) := by omega
        obtain ⟨nL, hnL⟩ : ∃ x, L.length = x := ⟨_, rfl⟩
        have HNL := hide hnL
        have hnl : nL ≤ 24 := by have := HLI.out; omega
        have HN24 := hide hnl
        rw [hnL] at HMM HLI ⊢
        clear hx hnL hnl
        go_upto_region 11 with fail
        have HSB : Hid (BX (wr.alloc (.cells #[.int .i64 xr, .int .i64 xs, .int .i64 xk, .int .i64 xt, .int .i64 xn] 46)) wr.heap.size #[.int .i64 xr, .int .i64 xs, .int .i64 xk, .int .i64 xt, .int .i64 xn] 46) := BX.new wr _ rfl _ _
        have HGS : Hid (w.heap.size + 1 + 1 ≠ wr.heap.size) := Nat.ne_of_lt HMM.out.tb.size
        replace HMM := hide (HMM.out.below HMM.out.size (bel1 wr (.cells #[.int .i64 xr, .int .i64 xs, .int .i64 xk, .int .i64 xt, .int .i64 xn] 46)))
        have HB : Hid (Below w.heap.size w (wr.alloc (.cells #[.int .i64 xr, .int .i64 xs, .int .i64 xk, .int .i64 xt, .int .i64 xn] 46))) := HMM.out.bl
        clear x0 x1 x2 x3 x4
        generalize wr.heap.size = gs at *
        generalize wr.alloc (.cells #[.int .i64 xr, .int .i64 xs, .int .i64 xk, .int .i64 xt, .int .i64 xn] 46) = u0 at *
        have s0 := HSB.out.cell 0 _ rfl
        have s1 := HSB.out.cell 1 _ rfl
        have s2 := HSB.out.cell 2 _ rfl
        have s3 := HSB.out.cell 3 _ rfl
        have s4 := HSB.out.cell 4 _ rfl
        by_cases k0 : xr < 1
        · go_wp2_with (go_at_call 8; refine (awake11 _).mono ?_; rintro e wz ⟨rfl, hb⟩)
          go_ret
          exact ⟨rfl, bel_next HB.out hb⟩
        · by_cases k1 : 5 < xr
          · go_wp2_with (go_at_call 8; refine (awake11 _).mono ?_; rintro e wz ⟨rfl, hb⟩)
            go_ret
            exact ⟨rfl, bel_next HB.out hb⟩
          · by_cases k2 : xs < 0
            · go_wp2_with (go_at_call 8; refine (awake11 _).mono ?_; rintro e wz ⟨rfl, hb⟩)
              go_ret
              exact ⟨rfl, bel_next HB.out hb⟩
            · by_cases k3 : 5 < xs
              · go_wp2_with (go_at_call 8; refine (awake11 _).mono ?_; rintro e wz ⟨rfl, hb⟩)
                go_ret
                exact ⟨rfl, bel_next HB.out hb⟩
              · by_cases k4 : xn < 1
                · go_wp2_with (go_at_call 8; refine (awake11 _).mono ?_; rintro e wz ⟨rfl, hb⟩)
                  go_ret
                  exact ⟨rfl, bel_next HB.out hb⟩
                · by_cases k5 : 9 < xn
                  · go_wp2_with (go_at_call 8; refine (awake11 _).mono ?_; rintro e wz ⟨rfl, hb⟩)
                    go_ret
                    exact ⟨rfl, bel_next HB.out hb⟩
                  · by_cases k6 : xt < 1
                    · go_wp2_with (go_at_call 8; refine (awake11 _).mono ?_; rintro e wz ⟨rfl, hb⟩)
                      go_ret
                      exact ⟨rfl, bel_next HB.out hb⟩
                    · by_cases k7 : 5 < xt
                      · go_wp2_with (go_at_call 8; refine (awake11 _).mono ?_; rintro e wz ⟨rfl, hb⟩)
                        go_ret
                        exact ⟨rfl, bel_next HB.out hb⟩
                      · obtain ⟨q, rfl⟩ : ∃ q : Nat, xr = (q : Int) := ⟨xr.toNat, by omega⟩
                        obtain ⟨f, rfl⟩ : ∃ f : Nat, xs = (f : Int) := ⟨xs.toNat, by omega⟩
                        obtain ⟨t, rfl⟩ : ∃ t : Nat, xt = (t : Int) := ⟨xt.toNat, by omega⟩
                        have hq : 1 ≤ q ∧ q ≤ 5 := by omega
                        have hf : f ≤ 5 := by omega
                        have ht : 1 ≤ t ∧ t ≤ 5 := by omega
                        have hxn : 1 ≤ xn ∧ xn ≤ 9 := by omega
                        have HQ := hide hq
                        have HT := hide ht
                        have HXN := hide hxn
                        have HJ1 : Hid (jn K q f 1 = K) := jn_one K q f (HE.out.zero HWF.out q (.inl rfl)) (HE.out.zero HWF.out f (.inl rfl))
                        clear HB
                        go_wp2
                        clear k0 k1 k2 k3 k4 k5 k6 k7 s0 s1 s2 s3 s4
                        go_loopw [11] (fun v wx => ∃ j : Nat, 1 ≤ j ∧ j ≤ 6 ∧ v = .int .i64 j ∧ Hid (f = 0 → j = 1) ∧ Hid (HM w.heap.size w wx (w.heap.size + 1 + 1) L (jn K q f j) (.slice p6 nL c6) (.slice p7 nL c7)) ∧ Hid (BX wx gs #[.int .i64 (q : Int), .int .i64 (f : Int), .int .i64 xk, .int .i64 (t : Int), .int .i64 xn] 46)) (fun v _ => 6 - (intOf v).toNat)
                        case atStart => exact ⟨1, by omega, by omega, rfl, (fun _ => rfl), (show Hid _ by rw [HJ1.out]; exact HMM.out), HSB⟩
                        case round =>
                          clear HMM HSB
                          obtain ⟨j, hj1, hj6, rfl, HFJ, HMM, HSB⟩ := hrel
                          have s0 := HSB.out.cell 0 _ rfl
                          have s1 := HSB.out.cell 1 _ rfl
                          by_cases hf0 : f = 0
                          · subst hf0
                            obtain rfl : j = 1 := HFJ.out rfl
                            rw [HJ1.out] at HMM
                            have HE1 := HE
                            have hz0 : ¬ ((0 : Int) < ((0 : Nat) : Int)) := by omega
                            clear HFJ HJ1 HE hf
                            obtain ⟨K1, hK1⟩ : ∃ K1, K = K1 := ⟨_, rfl⟩
                            rw [hK1] at HMM HE1
                            clear hK1
                            have s2 := HSB.out.cell 2 _ rfl
                            have s3 := HSB.out.cell 3 _ rfl
                            have s4 := HSB.out.cell 4 _ rfl
                            have hqq := HQ.out
                            have hq0 : (0 : Int) ≤ (q : Int) := by omega
                            have hql : (q : Int) < 6 := by omega
                            have r0 : wr.cell? ⟨w.heap.size + 1 + 1, q * 6, none⟩ = some (.int .i64 (K1 q 0 : Nat)) := HMM.out.tb.cell (q * 6 + 0) _ (cells36_at K1 (by omega) (by omega))
                            have r1 : wr.cell? ⟨w.heap.size + 1 + 1, q * 6 + 1, none⟩ = some (.int .i64 (K1 q 1 : Nat)) := HMM.out.tb.cell (q * 6 + 1) _ (cells36_at K1 (by omega) (by omega))
                            have r2 : wr.cell? ⟨w.heap.size + 1 + 1, q * 6 + 2, none⟩ = some (.int .i64 (K1 q 2 : Nat)) := HMM.out.tb.cell (q * 6 + 2) _ (cells36_at K1 (by omega) (by omega))
                            have r3 : wr.cell? ⟨w.heap.size + 1 + 1, q * 6 + 3, none⟩ = some (.int .i64 (K1 q 3 : Nat)) := HMM.out.tb.cell (q * 6 + 3) _ (cells36_at K1 (by omega) (by omega))
                            have r4 : wr.cell? ⟨w.heap.size + 1 + 1, q * 6 + 4, none⟩ = some (.int .i64 (K1 q 4 : Nat)) := HMM.out.tb.cell (q * 6 + 4) _ (cells36_at K1 (by omega) (by omega))
                            have r5 : wr.cell? ⟨w.heap.size + 1 + 1, q * 6 + 5, none⟩ = some (.int .i64 (K1 q 5 : Nat)) := HMM.out.tb.cell (q * 6 + 5) _ (cells36_at K1 (by omega) (by omega))
                            have HKN : Hid (∀ W, HM w.heap.size w W (w.heap.size + 1 + 1) L (K1) (.slice p6 nL c6) (.slice p7 nL c7) → Calls Try.prog 22 #[.slice p6 nL c6, .slice p7 nL c7, .agg #[.int .i64 (K1 q 0 : Nat), .int .i64 (K1 q 1 : Nat), .int .i64 (K1 q 2 : Nat), .int .i64 (K1 q 3 : Nat), .int .i64 (K1 q 4 : Nat), .int .i64 (K1 q 5 : Nat)]] W fun e w' => ∃ p c, e = .returned (.slice p (knA kK (K1 q) L).length c) ∧ AC w' p (knA kK (K1 q) L).length (knA kK (K1 q) L) ∧ CP p (knA kK (K1 q) L).length c ∧ Below W.heap.size W w') := fun W g => known_any _ _ nL _ _ L (K1 q) W g.rows.1 g.rows.2 HWF.out HN24.out (fun r => by have := HE1.out.small (by first | exact HN24.out | (rw [HNL.out]; exact HN24.out) | exact HN25.out) q r; omega)
                            have HKA : Hid (may11 (knA kK (K1 q) L) kK (q : Int) lo xn = if rgtA (havA (knA kK (K1 q) L) kK) q lo < xn then 5 else 0) := told_may HWF.out (by rw [HNL.out]; exact HN24.out) HLO.out HQ.out HXN.out
                            obtain ⟨n8, hn8⟩ : ∃ x, (knA kK (K1 q) L).length = x := ⟨_, rfl⟩
                            rw [hn8] at HKN
                            clear hn8 hqq
                            go_upto_region 20 with (go_at_call 22; refine (HKN.out _ HMM.out).mono ?_; rintro e w4 ⟨p8, c8, rfl, hn8, hc8, hb⟩; have HN8 := hide hn8; replace HMM := hide (HMM.out.below HMM.out.size hb); replace HSB := hide (HSB.out.below hb); replace s0 := bcell hb s0; replace s2 := bcell hb s2; replace s3 := bcell hb s3; replace s4 := bcell hb s4; clear hn8 hc8 hb)
                            clear r0 r1 r2 r3 r4 r5 HKN
                            have HDB : Hid (BX (w4.alloc (.cells #[.string ⟨#[107]⟩, .int .i64 (q : Int), .int .i64 0, .int .i64 xn] 24)) w4.heap.size #[.string ⟨#[107]⟩, .int .i64 (q : Int), .int .i64 0, .int .i64 xn] 24) := BX.new w4 _ rfl _ _
                            have H6D : Hid ((Value.slice p6 nL c6).ownBlock ≠ some w4.heap.size) := HMM.out.o6.old (Nat.le_refl _)
                            have H7D : Hid ((Value.slice p7 nL c7).ownBlock ≠ some w4.heap.size) := HMM.out.o7.old (Nat.le_refl _)
                            have HGD : Hid (w4.heap.size ≠ w.heap.size + 1 + 1) := (Nat.ne_of_lt HMM.out.tb.size).symm
                            have HSD : Hid (w4.heap.size ≠ gs) := (Nat.ne_of_lt HSB.out.size).symm
                            have HND : Hid (w.heap.size ≤ w4.heap.size) := HMM.out.size
                            have BQ := hide (bel1 w4 (.cells #[.string ⟨#[107]⟩, .int .i64 (q : Int), .int .i64 0, .int .i64 xn] 24))
                            replace HMM := hide (HMM.out.below HMM.out.size BQ.out)
                            replace HSB := hide (HSB.out.below BQ.out)
                            replace HN8 := hide (HN8.out.below BQ.out)
                            replace s0 := bcell BQ.out s0
                            replace s2 := bcell BQ.out s2
                            replace s3 := bcell BQ.out s3
                            replace s4 := bcell BQ.out s4
                            clear BQ
                            generalize w4.heap.size = gd at *
                            generalize w4.alloc (.cells #[.string ⟨#[107]⟩, .int .i64 (q : Int), .int .i64 0, .int .i64 xn] 24) = u5 at *
                            by_cases hk0 : 0 < xk
                            · by_cases hri : rgtA (havA (knA kK (K1 q) L) kK) q lo < xn
                              · have HMY : Hid (may11 (knA kK (K1 q) L) kK (q : Int) lo xn = 5) := by unfold Hid; rw [HKA.out, if_pos hri]
                                clear hri
                                go_wp2_with (go_at_call 18; refine (May11_any p8 n8 c8 (knA kK (K1 q) L) kK (q : Int) lo xn _ HN8.out).mono ?_; rintro e w6 ⟨rfl, hb⟩; rw [HMY.out]; replace HMM := hide (HMM.out.below HMM.out.size hb); replace HSB := hide (HSB.out.below hb); replace HDB := hide (HDB.out.below hb); replace s0 := bcell hb s0; replace s2 := bcell hb s2; replace s3 := bcell hb s3; replace s4 := bcell hb s4; have v2 := HDB.out.cell 2 _ rfl; have v3 := HDB.out.cell 3 _ rfl; have f2 := HDB.out.free 2; have f3 := HDB.out.free 3; clear hb)
                                go_roundw
                                case rel => exact ⟨i + 1, L, K1, p6, c6, p7, c7, by omega, by go_num, (by rw [HNL.out]), (by rw [HNL.out]), HE1, HWF, (show Hid _ by have := HLI.out; unfold Hid; rw [HNL.out]; omega), (show Hid _ by rw [HNL.out]; exact HMM.out)⟩
                                case measure => simp [intOf]; omega
                              · have HMY : Hid (may11 (knA kK (K1 q) L) kK (q : Int) lo xn = 0) := by unfold Hid; rw [HKA.out, if_neg hri]
                                have HRI : Hid (xn ≤ rgtA (havA (knA kK (K1 q) L) kK) q lo) := Int.not_lt.1 hri
                                clear hri
                                by_cases hk1 : xk = 1
                                · subst hk1
                                  have hwn : IntKind.i64.wrap (-xn) = -xn := by have := HXN.out; rw [IntKind.wrap_i64]; omega
                                  go_upto_region 25 with (go_at_call 18; refine (May11_any p8 n8 c8 (knA kK (K1 q) L) kK (q : Int) lo xn _ HN8.out).mono ?_; rintro e w6 ⟨rfl, hb⟩; rw [HMY.out]; replace HMM := hide (HMM.out.below HMM.out.size hb); replace HSB := hide (HSB.out.below hb); replace HDB := hide (HDB.out.below hb); replace s0 := bcell hb s0; replace s2 := bcell hb s2; replace s3 := bcell hb s3; replace s4 := bcell hb s4; have v2 := HDB.out.cell 2 _ rfl; have v3 := HDB.out.cell 3 _ rfl; have f2 := HDB.out.free 2; have f3 := HDB.out.free 3; clear hb)
                                  replace HMM := hide (HMM.out.far H6D.out H7D.out HGD.out HND.out 3 (.int .i64 (-xn)))
                                  replace HSB := hide (HSB.out.other HSD.out 3 (.int .i64 (-xn)))
                                  replace HDB : Hid (BX (w6.setCell ⟨gd, 3, none⟩ (.int .i64 (-xn))) gd #[.string ⟨#[107]⟩, .int .i64 (q : Int), .int .i64 0, .int .i64 (-xn)] 24) := HDB.out.set 3 (.int .i64 (-xn))
                                  clear s0 s2 s3 s4 v2 v3 f2 f3 hwn HMY HN8
                                  generalize w6.setCell ⟨gd, 3, none⟩ (.int .i64 (-xn)) = u6 at *
                                  obtain ⟨D, hD⟩ : ∃ D : Gd, D = ⟨q, 0, -xn, cntG q L + 1, K1 q⟩ := ⟨_, rfl⟩
                                  have HDE : Hid (encDd D = [.string ⟨#[107]⟩, .int .i64 (q : Int), .int .i64 0, .int .i64 (-xn)]) := by unfold Hid; rw [hD]; rfl
                                  have HOE : Hid (encOf D = [.int .i64 (q : Int)]) := by unfold Hid; rw [hD]; rfl
                                  have HE2 : Hid (EI (baseA lo) (L ++ [D]) (tab K1 q (more (K1 q) q (K1 q q + 1)))) := by
                                    unfold Hid
                                    rw [hD]
                                    exact HE1.out.deed ⟨q, 0, -xn, cntG q L + 1, K1 q⟩ rfl rfl (fun h => by have := HXN.out; first | exact absurd rfl h | (show (0 : Int) ≤ -xn; omega)) (deed_right (key := kK) HE1.out ⟨q, 0, -xn, cntG q L + 1, K1 q⟩ HQ.out xn (by have := HXN.out; omega) (.inr rfl) HRI.out)
                                  have HW2 : Hid (WfG (L ++ [D])) := by
                                    unfold Hid
                                    rw [hD]
                                    exact HWF.out.snoc rfl HQ.out (by have := HT.out; show 0 ≤ 5; omega) (by have := HXN.out; show -9 ≤ -xn ∧ -xn ≤ 9; omega) (fun h => by have := HXN.out; first | exact absurd rfl h | (show (1 : Int) ≤ -xn; omega))
                                  clear hD
                                  have g0 := HDB.out.cell 0 _ rfl
                                  have g1 := HDB.out.cell 1 _ rfl
                                  have g2 := HDB.out.cell 2 _ rfl
                                  have g3 := HDB.out.cell 3 _ rfl
                                  go_wp2_with (at_builtin; refine Stop.at ?_)
                                  unfold Stop
                                  have BQ := hide (bel1 u6 (.cells #[.string ⟨#[107]⟩, .int .i64 (q : Int), .int .i64 0, .int .i64 (-xn)] 24))
                                  replace HMM := hide (HMM.out.below HMM.out.size BQ.out)
                                  replace HSB := hide (HSB.out.below BQ.out)
                                  refine append_rows rfl _ _ 41 rfl Try.underlying41 Try.infoDd rfl (by decide) (by decide) encDd_len encDd_one w.heap.size _ L [D] rfl HMM.out.o6 (some ⟨u6.heap.size, 0, none⟩) 1 1 rfl (fun h => by cases h) (RS.new encDd_len u6 _ rfl [D] _ (by simp [HDE.out]) _ _ 1 rfl (by decide)) (by have := HNL.out; have := HN24.out; simp; omega) HMM.out.size ?_
                                  intro v6 w7 ho6 hg6 hbel6
                                  have HO7 := hide (HMM.out.o7.grown hg6 (HMM.out.o7.apart HMM.out.o6 (by decide)))
                                  have HTB := hide (HMM.out.tb.grown hg6 (HMM.out.o6.off HMM.out.tb (by decide)))
                                  replace HSB := hide (HSB.out.grown hg6 (HMM.out.o6.off HSB.out (by decide)))
                                  have HBL := hide (hbel6 _ HMM.out.bl)
                                  have HGN := hide HMM.out.gn
                                  obtain ⟨p9, c9, e6, _, _⟩ := ho6.open encDd_len
                                  obtain ⟨n2, hn2⟩ : ∃ x, (L ++ [D]).length = x := ⟨_, rfl⟩
                                  have HN2 := hide hn2
                                  have HN25 : Hid ((L ++ [D]).length ≤ i + 1) := by have := HNL.out; have := HLI.out; unfold Hid; simp; omega
                                  rw [hn2] at e6
                                  subst e6
                                  have HO6 := hide ho6
                                  clear ho6 hg6 hbel6 HMM BQ g0 g1 g2 g3 HDB hn2
                                  replace s0 := HSB.out.cell 0 _ rfl
                                  go_wp2_with (at_builtin; refine Stop.at ?_)
                                  unfold Stop
                                  have BQ := hide (bel1 w7 (.cells #[.int .i64 (q : Int)] 3))
                                  have HSZ : Hid (w.heap.size ≤ (w7.alloc (.cells #[.int .i64 (q : Int)] 3)).heap.size) := Nat.le_trans (Nat.le_trans HGN.out (Nat.le_of_lt HTB.out.size)) BQ.out.size
                                  replace HBL := hide (HBL.out.trans (BQ.out.mono (Nat.le_trans HGN.out (Nat.le_of_lt HTB.out.size))))
                                  replace HO6 := hide (HO6.out.below BQ.out)
                                  replace HO7 := hide (HO7.out.below BQ.out)
                                  replace HTB := hide (HTB.out.below BQ.out)
                                  replace HSB := hide (HSB.out.below BQ.out)
                                  refine append_rows rfl _ _ 42 rfl Try.underlying42 Try.infoOf rfl (by decide) (by decide) encOf_len encOf_one w.heap.size _ L [D] rfl HO7.out (some ⟨w7.heap.size, 0, none⟩) 1 1 rfl (fun h => by cases h) (RS.new encOf_len w7 _ rfl [D] _ (by simp [HOE.out]) _ _ 1 rfl (by decide)) (by have := HNL.out; have := HN24.out; simp; omega) HSZ.out ?_
                                  intro v7 w8 ho7 hg7 hbel7
                                  replace HO6 := hide (HO6.out.grown hg7 (HO6.out.apart HO7.out (by decide)))
                                  replace HTB := hide (HTB.out.grown hg7 (HO7.out.off HTB.out (by decide)))
                                  replace HSB := hide (HSB.out.grown hg7 (HO7.out.off HSB.out (by decide)))
                                  replace HBL := hide (hbel7 _ HBL.out)
                                  obtain ⟨pA, cA, e7, _, _⟩ := ho7.open encOf_len
                                  rw [HN2.out] at e7
                                  subst e7
                                  have HMM : Hid (HM w.heap.size w w8 (w.heap.size + 1 + 1) (L ++ [D]) (K1) (.slice p9 n2 c9) (.slice pA n2 cA)) := ⟨HO6.out, ho7, HTB.out, HBL.out, HGN.out⟩
                                  clear ho7 hg7 hbel7 HO6 HO7 HTB HBL HGN BQ HSZ
                                  replace s0 := HSB.out.cell 0 _ rfl
                                  obtain ⟨kq, hkq⟩ : ∃ x, K1 q q = x := ⟨_, rfl⟩
                                  have hkb : kq ≤ 24 := by rw [← hkq]; exact HE1.out.small (by rw [HNL.out]; exact HN24.out) q q
                                  obtain ⟨M1, hM1⟩ : ∃ M, kq + 1 = M := ⟨_, rfl⟩
                                  have hwM : IntKind.i64.wrap ((kq : Int) + 1) = (M1 : Int) := by rw [IntKind.wrap_i64]; omega
                                  rw [hkq, hM1] at HE2
                                  have tq := HMM.out.tb.cell (q * 6 + q) _ (cells36_at K1 (by have := HQ.out; omega) (by have := HQ.out; omega))
                                  rw [hkq] at tq
                                  have fq := HMM.out.tb.free (q * 6 + q)
                                  have hq0 : (0 : Int) ≤ (q : Int) := by omega
                                  have hql : (q : Int) < 6 := by have := HQ.out; omega
                                  clear hkq hM1 hkb
                                  go_upto_region 27 with fail
                                  go_region
                                  have HMN := hide (HMM.out.put (q := q) (r := q) (by have := HQ.out; omega) (by have := HQ.out; omega) M1).drew
                                  clear tq fq s0 HMM HSB hwM
                                  generalize (w8.setCell ⟨w.heap.size + 1 + 1, q * 6 + q, none⟩ (.int .i64 (M1 : Int))).drew = u9 at *
                                  obtain ⟨K2, hK2⟩ : ∃ K2, tab K1 q (more (K1 q) q M1) = K2 := ⟨_, rfl⟩
                                  rw [hK2] at HMN HE2
                                  clear hK2 HDE HOE
                                  generalize L ++ [D] = L2 at *
                                  have HL24 : Hid (L2.length ≤ 24) := by have := HN25.out; unfold Hid; omega
                                  go_wp2
                                  go_loopw [14] (fun v wr => ∃ j : Nat, 1 ≤ j ∧ j ≤ 6 ∧ v = .int .i64 j ∧ Hid (HM w.heap.size w wr (w.heap.size + 1 + 1) L2 (K2) (.slice p9 n2 c9) (.slice pA n2 cA))) (fun v _ => 6 - (intOf v).toNat)
                                  case atStart => exact ⟨1, by omega, by omega, rfl, HMN⟩
                                  case round =>
                                    clear HMN
                                    obtain ⟨j, hj1, hj6, rfl, HMM⟩ := hrel
                                    by_cases hj5 : j ≤ 5
                                    · have hjp : (j : Int) ≤ 5 := by omega
                                      have hj0 : (0 : Int) ≤ (j : Int) := by omega
                                      have hjl : (j : Int) < 6 := by omega
                                      have r0 : wr.cell? ⟨w.heap.size + 1 + 1, j * 6, none⟩ = some (.int .i64 (K2 j 0 : Nat)) := HMM.out.tb.cell (j * 6 + 0) _ (cells36_at K2 (by omega) (by omega))
                                      have r1 : wr.cell? ⟨w.heap.size + 1 + 1, j * 6 + 1, none⟩ = some (.int .i64 (K2 j 1 : Nat)) := HMM.out.tb.cell (j * 6 + 1) _ (cells36_at K2 (by omega) (by omega))
                                      have r2 : wr.cell? ⟨w.heap.size + 1 + 1, j * 6 + 2, none⟩ = some (.int .i64 (K2 j 2 : Nat)) := HMM.out.tb.cell (j * 6 + 2) _ (cells36_at K2 (by omega) (by omega))
                                      have r3 : wr.cell? ⟨w.heap.size + 1 + 1, j * 6 + 3, none⟩ = some (.int .i64 (K2 j 3 : Nat)) := HMM.out.tb.cell (j * 6 + 3) _ (cells36_at K2 (by omega) (by omega))
                                      have r4 : wr.cell? ⟨w.heap.size + 1 + 1, j * 6 + 4, none⟩ = some (.int .i64 (K2 j 4 : Nat)) := HMM.out.tb.cell (j * 6 + 4) _ (cells36_at K2 (by omega) (by omega))
                                      have r5 : wr.cell? ⟨w.heap.size + 1 + 1, j * 6 + 5, none⟩ = some (.int .i64 (K2 j 5 : Nat)) := HMM.out.tb.cell (j * 6 + 5) _ (cells36_at K2 (by omega) (by omega))
                                      have HKN : Hid (∀ W, HM w.heap.size w W (w.heap.size + 1 + 1) L2 (K2) (.slice p9 n2 c9) (.slice pA n2 cA) → Calls Try.prog 22 #[.slice p9 n2 c9, .slice pA n2 cA, .agg #[.int .i64 (K2 j 0 : Nat), .int .i64 (K2 j 1 : Nat), .int .i64 (K2 j 2 : Nat), .int .i64 (K2 j 3 : Nat), .int .i64 (K2 j 4 : Nat), .int .i64 (K2 j 5 : Nat)]] W fun e w' => ∃ p c, e = .returned (.slice p (knA kK (K2 j) L2).length c) ∧ AC w' p (knA kK (K2 j) L2).length (knA kK (K2 j) L2) ∧ CP p (knA kK (K2 j) L2).length c ∧ Below W.heap.size W w') := fun W g => known_any _ _ n2 _ _ L2 (K2 j) W g.rows.1 g.rows.2 HW2.out (by rw [← HN2.out]; exact HL24.out) (fun r => by have := HE2.out.small HL24.out j r; omega)
                                      obtain ⟨y, hy⟩ : ∃ y, num11 (knA kK (K2 j) L2) kK = y := ⟨_, rfl⟩
                                      have hyl : ¬ (y < lo) := by have := told_num HE2.out HW2.out HL24.out j; rw [hy] at this; omega
                                      have HRY : Hid (∀ k : Nat, 1 ≤ k ∧ k ≤ 5 → 0 ≤ rgt11 (knA kK (K2 j) L2) kK (k : Int) lo) := fun k hk => told_rgt HE2.out HW2.out HL24.out HLO.out j hk
                                      have HY := hide hy
                                      clear hy
                                      generalize knA kK (K2 j) L2 = A9 at *
                                      generalize A9.length = n9 at *
                                      go_wp2_with (first | (go_at_call 22; refine (HKN.out _ HMM.out).mono ?_; rintro e wa ⟨pB, cB, rfl, hnB, hcB, hb⟩; have HNB := hide hnB; replace HMM := hide (HMM.out.below HMM.out.size hb); clear hnB hcB hb) | (go_at_call 16; refine (Number11_any pB n9 cB A9 kK _ HNB.out).mono ?_; rintro e wb ⟨rfl, hb⟩; rw [HY.out]; replace HMM := hide (HMM.out.below HMM.out.size hb); replace HNB := hide (HNB.out.below hb); clear hb))
                                      clear r0 r1 r2 r3 r4 r5 hyl HY HKN
                                      go_loopw [16] (fun v wr => ∃ k : Nat, 1 ≤ k ∧ k ≤ 6 ∧ v = .int .i64 k ∧ Hid (HM w.heap.size w wr (w.heap.size + 1 + 1) L2 (K2) (.slice p9 n2 c9) (.slice pA n2 cA)) ∧ Hid (AC wr pB n9 A9)) (fun v _ => 6 - (intOf v).toNat)
                                      case atStart => exact ⟨1, by omega, by omega, rfl, HMM, HNB⟩
                                      case round =>
                                        clear HMM HNB
                                        obtain ⟨k, hk1, hk6, rfl, HMM, HNB⟩ := hrel
                                        by_cases hk5 : k ≤ 5
                                        · have hkp : (k : Int) ≤ 5 := by omega
                                          obtain ⟨y2, hy2⟩ : ∃ y, rgt11 A9 kK (k : Int) lo = y := ⟨_, rfl⟩
                                          have hyl : ¬ (y2 < 0) := by have := HRY.out k ⟨hk1, hk5⟩; rw [hy2] at this; omega
                                          have HY := hide hy2
                                          clear hy2
                                          go_wp2_with (go_at_call 17; refine (Rights11_any pB n9 cB A9 kK (k : Int) lo _ HNB.out).mono ?_; rintro e wb ⟨rfl, hb⟩; rw [HY.out]; replace HMM := hide (HMM.out.below HMM.out.size hb); replace HNB := hide (HNB.out.below hb); clear hb)
                                          go_roundw
                                          case rel => exact ⟨k + 1, by omega, by omega, by go_num, HMM, HNB⟩
                                          case measure => simp [intOf]; omega
                                        · have hkp : ¬ ((k : Int) ≤ 5) := by omega
                                          go_wp2
                                          go_roundw
                                          case rel => exact ⟨j + 1, by omega, by omega, by go_num, HMM⟩
                                          case measure => simp [intOf]; omega
                                    · have hjp : ¬ ((j : Int) ≤ 5) := by omega
                                      go_wp2
                                      go_roundw
                                      case rel => exact ⟨i + 1, L2, K2, p9, c9, pA, cA, by omega, by go_num, (by rw [HN2.out]), (by rw [HN2.out]), HE2, HW2, HN25, (show Hid _ by rw [HN2.out]; exact HMM.out)⟩
                                      case measure => simp [intOf]; omega
                                · have hk2 : (xk == 1) = false := by rw [beq_eq_false_iff_ne]; exact hk1
                                  go_upto_region 25 with (go_at_call 18; refine (May11_any p8 n8 c8 (knA kK (K1 q) L) kK (q : Int) lo xn _ HN8.out).mono ?_; rintro e w6 ⟨rfl, hb⟩; rw [HMY.out]; replace HMM := hide (HMM.out.below HMM.out.size hb); replace HSB := hide (HSB.out.below hb); replace HDB := hide (HDB.out.below hb); replace s0 := bcell hb s0; replace s2 := bcell hb s2; replace s3 := bcell hb s3; replace s4 := bcell hb s4; have v2 := HDB.out.cell 2 _ rfl; have v3 := HDB.out.cell 3 _ rfl; have f2 := HDB.out.free 2; have f3 := HDB.out.free 3; clear hb)
                                  replace HMM := hide (HMM.out.far H6D.out H7D.out HGD.out HND.out 2 (.int .i64 (t : Int)))
                                  replace HSB := hide (HSB.out.other HSD.out 2 (.int .i64 (t : Int)))
                                  replace HDB : Hid (BX (w6.setCell ⟨gd, 2, none⟩ (.int .i64 (t : Int))) gd #[.string ⟨#[107]⟩, .int .i64 (q : Int), .int .i64 (t : Int), .int .i64 xn] 24) := HDB.out.set 2 (.int .i64 (t : Int))
                                  clear s0 s2 s3 s4 v2 v3 f2 f3 HMY HN8
                                  generalize w6.setCell ⟨gd, 2, none⟩ (.int .i64 (t : Int)) = u6 at *
                                  obtain ⟨D, hD⟩ : ∃ D : Gd, D = ⟨q, t, xn, cntG q L + 1, K1 q⟩ := ⟨_, rfl⟩
                                  have HDE : Hid (encDd D = [.string ⟨#[107]⟩, .int .i64 (q : Int), .int .i64 (t : Int), .int .i64 (xn)]) := by unfold Hid; rw [hD]; rfl
                                  have HOE : Hid (encOf D = [.int .i64 (q : Int)]) := by unfold Hid; rw [hD]; rfl
                                  have HE2 : Hid (EI (baseA lo) (L ++ [D]) (tab K1 q (more (K1 q) q (K1 q q + 1)))) := by
                                    unfold Hid
                                    rw [hD]
                                    exact HE1.out.deed ⟨q, t, xn, cntG q L + 1, K1 q⟩ rfl rfl (fun h => by have := HXN.out; first | exact absurd rfl h | (show (0 : Int) ≤ xn; omega)) (deed_right (key := kK) HE1.out ⟨q, t, xn, cntG q L + 1, K1 q⟩ HQ.out xn (by have := HXN.out; omega) (.inl rfl) HRI.out)
                                  have HW2 : Hid (WfG (L ++ [D])) := by
                                    unfold Hid
                                    rw [hD]
                                    exact HWF.out.snoc rfl HQ.out (by have := HT.out; show t ≤ 5; omega) (by have := HXN.out; show -9 ≤ xn ∧ xn ≤ 9; omega) (fun h => by have := HXN.out; first | exact absurd rfl h | (show (1 : Int) ≤ xn; omega))
                                  clear hD
                                  have g0 := HDB.out.cell 0 _ rfl
                                  have g1 := HDB.out.cell 1 _ rfl
                                  have g2 := HDB.out.cell 2 _ rfl
                                  have g3 := HDB.out.cell 3 _ rfl
                                  go_wp2_with (at_builtin; refine Stop.at ?_)
                                  unfold Stop
                                  have BQ := hide (bel1 u6 (.cells #[.string ⟨#[107]⟩, .int .i64 (q : Int), .int .i64 (t : Int), .int .i64 (xn)] 24))
                                  replace HMM := hide (HMM.out.below HMM.out.size BQ.out)
                                  replace HSB := hide (HSB.out.below BQ.out)
                                  refine append_rows rfl _ _ 41 rfl Try.underlying41 Try.infoDd rfl (by decide) (by decide) encDd_len encDd_one w.heap.size _ L [D] rfl HMM.out.o6 (some ⟨u6.heap.size, 0, none⟩) 1 1 rfl (fun h => by cases h) (RS.new encDd_len u6 _ rfl [D] _ (by simp [HDE.out]) _ _ 1 rfl (by decide)) (by have := HNL.out; have := HN24.out; simp; omega) HMM.out.size ?_
                                  intro v6 w7 ho6 hg6 hbel6
                                  have HO7 := hide (HMM.out.o7.grown hg6 (HMM.out.o7.apart HMM.out.o6 (by decide)))
                                  have HTB := hide (HMM.out.tb.grown hg6 (HMM.out.o6.off HMM.out.tb (by decide)))
                                  replace HSB := hide (HSB.out.grown hg6 (HMM.out.o6.off HSB.out (by decide)))
                                  have HBL := hide (hbel6 _ HMM.out.bl)
                                  have HGN := hide HMM.out.gn
                                  obtain ⟨p9, c9, e6, _, _⟩ := ho6.open encDd_len
                                  obtain ⟨n2, hn2⟩ : ∃ x, (L ++ [D]).length = x := ⟨_, rfl⟩
                                  have HN2 := hide hn2
                                  have HN25 : Hid ((L ++ [D]).length ≤ i + 1) := by have := HNL.out; have := HLI.out; unfold Hid; simp; omega
                                  rw [hn2] at e6
                                  subst e6
                                  have HO6 := hide ho6
                                  clear ho6 hg6 hbel6 HMM BQ g0 g1 g2 g3 HDB hn2
                                  replace s0 := HSB.out.cell 0 _ rfl
                                  go_wp2_with (at_builtin; refine Stop.at ?_)
                                  unfold Stop
                                  have BQ := hide (bel1 w7 (.cells #[.int .i64 (q : Int)] 3))
                                  have HSZ : Hid (w.heap.size ≤ (w7.alloc (.cells #[.int .i64 (q : Int)] 3)).heap.size) := Nat.le_trans (Nat.le_trans HGN.out (Nat.le_of_lt HTB.out.size)) BQ.out.size
                                  replace HBL := hide (HBL.out.trans (BQ.out.mono (Nat.le_trans HGN.out (Nat.le_of_lt HTB.out.size))))
                                  replace HO6 := hide (HO6.out.below BQ.out)
                                  replace HO7 := hide (HO7.out.below BQ.out)
                                  replace HTB := hide (HTB.out.below BQ.out)
                                  replace HSB := hide (HSB.out.below BQ.out)
                                  refine append_rows rfl _ _ 42 rfl Try.underlying42 Try.infoOf rfl (by decide) (by decide) encOf_len encOf_one w.heap.size _ L [D] rfl HO7.out (some ⟨w7.heap.size, 0, none⟩) 1 1 rfl (fun h => by cases h) (RS.new encOf_len w7 _ rfl [D] _ (by simp [HOE.out]) _ _ 1 rfl (by decide)) (by have := HNL.out; have := HN24.out; simp; omega) HSZ.out ?_
                                  intro v7 w8 ho7 hg7 hbel7
                                  replace HO6 := hide (HO6.out.grown hg7 (HO6.out.apart HO7.out (by decide)))
                                  replace HTB := hide (HTB.out.grown hg7 (HO7.out.off HTB.out (by decide)))
                                  replace HSB := hide (HSB.out.grown hg7 (HO7.out.off HSB.out (by decide)))
                                  replace HBL := hide (hbel7 _ HBL.out)
                                  obtain ⟨pA, cA, e7, _, _⟩ := ho7.open encOf_len
                                  rw [HN2.out] at e7
                                  subst e7
                                  have HMM : Hid (HM w.heap.size w w8 (w.heap.size + 1 + 1) (L ++ [D]) (K1) (.slice p9 n2 c9) (.slice pA n2 cA)) := ⟨HO6.out, ho7, HTB.out, HBL.out, HGN.out⟩
                                  clear ho7 hg7 hbel7 HO6 HO7 HTB HBL HGN BQ HSZ
                                  replace s0 := HSB.out.cell 0 _ rfl
                                  obtain ⟨kq, hkq⟩ : ∃ x, K1 q q = x := ⟨_, rfl⟩
                                  have hkb : kq ≤ 24 := by rw [← hkq]; exact HE1.out.small (by rw [HNL.out]; exact HN24.out) q q
                                  obtain ⟨M1, hM1⟩ : ∃ M, kq + 1 = M := ⟨_, rfl⟩
                                  have hwM : IntKind.i64.wrap ((kq : Int) + 1) = (M1 : Int) := by rw [IntKind.wrap_i64]; omega
                                  rw [hkq, hM1] at HE2
                                  have tq := HMM.out.tb.cell (q * 6 + q) _ (cells36_at K1 (by have := HQ.out; omega) (by have := HQ.out; omega))
                                  rw [hkq] at tq
                                  have fq := HMM.out.tb.free (q * 6 + q)
                                  have hq0 : (0 : Int) ≤ (q : Int) := by omega
                                  have hql : (q : Int) < 6 := by have := HQ.out; omega
                                  clear hkq hM1 hkb
                                  go_upto_region 27 with fail
                                  go_region
                                  have HMN := hide (HMM.out.put (q := q) (r := q) (by have := HQ.out; omega) (by have := HQ.out; omega) M1).drew
                                  clear tq fq s0 HMM HSB hwM
                                  generalize (w8.setCell ⟨w.heap.size + 1 + 1, q * 6 + q, none⟩ (.int .i64 (M1 : Int))).drew = u9 at *
                                  obtain ⟨K2, hK2⟩ : ∃ K2, tab K1 q (more (K1 q) q M1) = K2 := ⟨_, rfl⟩
                                  rw [hK2] at HMN HE2
                                  clear hK2 HDE HOE
                                  generalize L ++ [D] = L2 at *
                                  have HL24 : Hid (L2.length ≤ 24) := by have := HN25.out; unfold Hid; omega
                                  go_wp2
                                  go_loopw [14] (fun v wr => ∃ j : Nat, 1 ≤ j ∧ j ≤ 6 ∧ v = .int .i64 j ∧ Hid (HM w.heap.size w wr (w.heap.size + 1 + 1) L2 (K2) (.slice p9 n2 c9) (.slice pA n2 cA))) (fun v _ => 6 - (intOf v).toNat)
                                  case atStart => exact ⟨1, by omega, by omega, rfl, HMN⟩
                                  case round =>
                                    clear HMN
                                    obtain ⟨j, hj1, hj6, rfl, HMM⟩ := hrel
                                    by_cases hj5 : j ≤ 5
                                    · have hjp : (j : Int) ≤ 5 := by omega
                                      have hj0 : (0 : Int) ≤ (j : Int) := by omega
                                      have hjl : (j : Int) < 6 := by omega
                                      have r0 : wr.cell? ⟨w.heap.size + 1 + 1, j * 6, none⟩ = some (.int .i64 (K2 j 0 : Nat)) := HMM.out.tb.cell (j * 6 + 0) _ (cells36_at K2 (by omega) (by omega))
                                      have r1 : wr.cell? ⟨w.heap.size + 1 + 1, j * 6 + 1, none⟩ = some (.int .i64 (K2 j 1 : Nat)) := HMM.out.tb.cell (j * 6 + 1) _ (cells36_at K2 (by omega) (by omega))
                                      have r2 : wr.cell? ⟨w.heap.size + 1 + 1, j * 6 + 2, none⟩ = some (.int .i64 (K2 j 2 : Nat)) := HMM.out.tb.cell (j * 6 + 2) _ (cells36_at K2 (by omega) (by omega))
                                      have r3 : wr.cell? ⟨w.heap.size + 1 + 1, j * 6 + 3, none⟩ = some (.int .i64 (K2 j 3 : Nat)) := HMM.out.tb.cell (j * 6 + 3) _ (cells36_at K2 (by omega) (by omega))
                                      have r4 : wr.cell? ⟨w.heap.size + 1 + 1, j * 6 + 4, none⟩ = some (.int .i64 (K2 j 4 : Nat)) := HMM.out.tb.cell (j * 6 + 4) _ (cells36_at K2 (by omega) (by omega))
                                      have r5 : wr.cell? ⟨w.heap.size + 1 + 1, j * 6 + 5, none⟩ = some (.int .i64 (K2 j 5 : Nat)) := HMM.out.tb.cell (j * 6 + 5) _ (cells36_at K2 (by omega) (by omega))
                                      have HKN : Hid (∀ W, HM w.heap.size w W (w.heap.size + 1 + 1) L2 (K2) (.slice p9 n2 c9) (.slice pA n2 cA) → Calls Try.prog 22 #[.slice p9 n2 c9, .slice pA n2 cA, .agg #[.int .i64 (K2 j 0 : Nat), .int .i64 (K2 j 1 : Nat), .int .i64 (K2 j 2 : Nat), .int .i64 (K2 j 3 : Nat), .int .i64 (K2 j 4 : Nat), .int .i64 (K2 j 5 : Nat)]] W fun e w' => ∃ p c, e = .returned (.slice p (knA kK (K2 j) L2).length c) ∧ AC w' p (knA kK (K2 j) L2).length (knA kK (K2 j) L2) ∧ CP p (knA kK (K2 j) L2).length c ∧ Below W.heap.size W w') := fun W g => known_any _ _ n2 _ _ L2 (K2 j) W g.rows.1 g.rows.2 HW2.out (by rw [← HN2.out]; exact HL24.out) (fun r => by have := HE2.out.small HL24.out j r; omega)
                                      obtain ⟨y, hy⟩ : ∃ y, num11 (knA kK (K2 j) L2) kK = y := ⟨_, rfl⟩
                                      have hyl : ¬ (y < lo) := by have := told_num HE2.out HW2.out HL24.out j; rw [hy] at this; omega
                                      have HRY : Hid (∀ k : Nat, 1 ≤ k ∧ k ≤ 5 → 0 ≤ rgt11 (knA kK (K2 j) L2) kK (k : Int) lo) := fun k hk => told_rgt HE2.out HW2.out HL24.out HLO.out j hk
                                      have HY := hide hy
                                      clear hy
                                      generalize knA kK (K2 j) L2 = A9 at *
                                      generalize A9.length = n9 at *
                                      go_wp2_with (first | (go_at_call 22; refine (HKN.out _ HMM.out).mono ?_; rintro e wa ⟨pB, cB, rfl, hnB, hcB, hb⟩; have HNB := hide hnB; replace HMM := hide (HMM.out.below HMM.out.size hb); clear hnB hcB hb) | (go_at_call 16; refine (Number11_any pB n9 cB A9 kK _ HNB.out).mono ?_; rintro e wb ⟨rfl, hb⟩; rw [HY.out]; replace HMM := hide (HMM.out.below HMM.out.size hb); replace HNB := hide (HNB.out.below hb); clear hb))
                                      clear r0 r1 r2 r3 r4 r5 hyl HY HKN
                                      go_loopw [16] (fun v wr => ∃ k : Nat, 1 ≤ k ∧ k ≤ 6 ∧ v = .int .i64 k ∧ Hid (HM w.heap.size w wr (w.heap.size + 1 + 1) L2 (K2) (.slice p9 n2 c9) (.slice pA n2 cA)) ∧ Hid (AC wr pB n9 A9)) (fun v _ => 6 - (intOf v).toNat)
                                      case atStart => exact ⟨1, by omega, by omega, rfl, HMM, HNB⟩
                                      case round =>
                                        clear HMM HNB
                                        obtain ⟨k, hk1, hk6, rfl, HMM, HNB⟩ := hrel
                                        by_cases hk5 : k ≤ 5
                                        · have hkp : (k : Int) ≤ 5 := by omega
                                          obtain ⟨y2, hy2⟩ : ∃ y, rgt11 A9 kK (k : Int) lo = y := ⟨_, rfl⟩
                                          have hyl : ¬ (y2 < 0) := by have := HRY.out k ⟨hk1, hk5⟩; rw [hy2] at this; omega
                                          have HY := hide hy2
                                          clear hy2
                                          go_wp2_with (go_at_call 17; refine (Rights11_any pB n9 cB A9 kK (k : Int) lo _ HNB.out).mono ?_; rintro e wb ⟨rfl, hb⟩; rw [HY.out]; replace HMM := hide (HMM.out.below HMM.out.size hb); replace HNB := hide (HNB.out.below hb); clear hb)
                                          go_roundw
                                          case rel => exact ⟨k + 1, by omega, by omega, by go_num, HMM, HNB⟩
                                          case measure => simp [intOf]; omega
                                        · have hkp : ¬ ((k : Int) ≤ 5) := by omega
                                          go_wp2
                                          go_roundw
                                          case rel => exact ⟨j + 1, by omega, by omega, by go_num, HMM⟩
                                          case measure => simp [intOf]; omega
                                    · have hjp : ¬ ((j : Int) ≤ 5) := by omega
                                      go_wp2
                                      go_roundw
                                      case rel => exact ⟨i + 1, L2, K2, p9, c9, pA, cA, by omega, by go_num, (by rw [HN2.out]), (by rw [HN2.out]), HE2, HW2, HN25, (show Hid _ by rw [HN2.out]; exact HMM.out)⟩
                                      case measure => simp [intOf]; omega
                            · go_upto_region 25 with fail
                              clear s0 s2 s3 s4 HN8
                              generalize u5 = u6 at *
                              obtain ⟨D, hD⟩ : ∃ D : Gd, D = ⟨q, 0, xn, cntG q L + 1, K1 q⟩ := ⟨_, rfl⟩
                              have HDE : Hid (encDd D = [.string ⟨#[107]⟩, .int .i64 (q : Int), .int .i64 0, .int .i64 (xn)]) := by unfold Hid; rw [hD]; rfl
                              have HOE : Hid (encOf D = [.int .i64 (q : Int)]) := by unfold Hid; rw [hD]; rfl
                              have HE2 : Hid (EI (baseA lo) (L ++ [D]) (tab K1 q (more (K1 q) q (K1 q q + 1)))) := by
                                unfold Hid
                                rw [hD]
                                exact HE1.out.deed ⟨q, 0, xn, cntG q L + 1, K1 q⟩ rfl rfl (fun h => by have := HXN.out; first | exact absurd rfl h | (show (0 : Int) ≤ xn; omega)) (eff_up HE1.out ⟨q, 0, xn, cntG q L + 1, K1 q⟩ rfl (by have := HXN.out; show (0 : Int) ≤ xn; omega))
                              have HW2 : Hid (WfG (L ++ [D])) := by
                                unfold Hid
                                rw [hD]
                                exact HWF.out.snoc rfl HQ.out (by have := HT.out; show 0 ≤ 5; omega) (by have := HXN.out; show -9 ≤ xn ∧ xn ≤ 9; omega) (fun h => by have := HXN.out; first | exact absurd rfl h | (show (1 : Int) ≤ xn; omega))
                              clear hD
                              have g0 := HDB.out.cell 0 _ rfl
                              have g1 := HDB.out.cell 1 _ rfl
                              have g2 := HDB.out.cell 2 _ rfl
                              have g3 := HDB.out.cell 3 _ rfl
                              go_wp2_with (at_builtin; refine Stop.at ?_)
                              unfold Stop
                              have BQ := hide (bel1 u6 (.cells #[.string ⟨#[107]⟩, .int .i64 (q : Int), .int .i64 0, .int .i64 (xn)] 24))
                              replace HMM := hide (HMM.out.below HMM.out.size BQ.out)
                              replace HSB := hide (HSB.out.below BQ.out)
                              refine append_rows rfl _ _ 41 rfl Try.underlying41 Try.infoDd rfl (by decide) (by decide) encDd_len encDd_one w.heap.size _ L [D] rfl HMM.out.o6 (some ⟨u6.heap.size, 0, none⟩) 1 1 rfl (fun h => by cases h) (RS.new encDd_len u6 _ rfl [D] _ (by simp [HDE.out]) _ _ 1 rfl (by decide)) (by have := HNL.out; have := HN24.out; simp; omega) HMM.out.size ?_
                              intro v6 w7 ho6 hg6 hbel6
                              have HO7 := hide (HMM.out.o7.grown hg6 (HMM.out.o7.apart HMM.out.o6 (by decide)))
                              have HTB := hide (HMM.out.tb.grown hg6 (HMM.out.o6.off HMM.out.tb (by decide)))
                              replace HSB := hide (HSB.out.grown hg6 (HMM.out.o6.off HSB.out (by decide)))
                              have HBL := hide (hbel6 _ HMM.out.bl)
                              have HGN := hide HMM.out.gn
                              obtain ⟨p9, c9, e6, _, _⟩ := ho6.open encDd_len
                              obtain ⟨n2, hn2⟩ : ∃ x, (L ++ [D]).length = x := ⟨_, rfl⟩
                              have HN2 := hide hn2
                              have HN25 : Hid ((L ++ [D]).length ≤ i + 1) := by have := HNL.out; have := HLI.out; unfold Hid; simp; omega
                              rw [hn2] at e6
                              subst e6
                              have HO6 := hide ho6
                              clear ho6 hg6 hbel6 HMM BQ g0 g1 g2 g3 HDB hn2
                              replace s0 := HSB.out.cell 0 _ rfl
                              go_wp2_with (at_builtin; refine Stop.at ?_)
                              unfold Stop
                              have BQ := hide (bel1 w7 (.cells #[.int .i64 (q : Int)] 3))
                              have HSZ : Hid (w.heap.size ≤ (w7.alloc (.cells #[.int .i64 (q : Int)] 3)).heap.size) := Nat.le_trans (Nat.le_trans HGN.out (Nat.le_of_lt HTB.out.size)) BQ.out.size
                              replace HBL := hide (HBL.out.trans (BQ.out.mono (Nat.le_trans HGN.out (Nat.le_of_lt HTB.out.size))))
                              replace HO6 := hide (HO6.out.below BQ.out)
                              replace HO7 := hide (HO7.out.below BQ.out)
                              replace HTB := hide (HTB.out.below BQ.out)
                              replace HSB := hide (HSB.out.below BQ.out)
                              refine append_rows rfl _ _ 42 rfl Try.underlying42 Try.infoOf rfl (by decide) (by decide) encOf_len encOf_one w.heap.size _ L [D] rfl HO7.out (some ⟨w7.heap.size, 0, none⟩) 1 1 rfl (fun h => by cases h) (RS.new encOf_len w7 _ rfl [D] _ (by simp [HOE.out]) _ _ 1 rfl (by decide)) (by have := HNL.out; have := HN24.out; simp; omega) HSZ.out ?_
                              intro v7 w8 ho7 hg7 hbel7
                              replace HO6 := hide (HO6.out.grown hg7 (HO6.out.apart HO7.out (by decide)))
                              replace HTB := hide (HTB.out.grown hg7 (HO7.out.off HTB.out (by decide)))
                              replace HSB := hide (HSB.out.grown hg7 (HO7.out.off HSB.out (by decide)))
                              replace HBL := hide (hbel7 _ HBL.out)
                              obtain ⟨pA, cA, e7, _, _⟩ := ho7.open encOf_len
                              rw [HN2.out] at e7
                              subst e7
                              have HMM : Hid (HM w.heap.size w w8 (w.heap.size + 1 + 1) (L ++ [D]) (K1) (.slice p9 n2 c9) (.slice pA n2 cA)) := ⟨HO6.out, ho7, HTB.out, HBL.out, HGN.out⟩
                              clear ho7 hg7 hbel7 HO6 HO7 HTB HBL HGN BQ HSZ
                              replace s0 := HSB.out.cell 0 _ rfl
                              obtain ⟨kq, hkq⟩ : ∃ x, K1 q q = x := ⟨_, rfl⟩
                              have hkb : kq ≤ 24 := by rw [← hkq]; exact HE1.out.small (by rw [HNL.out]; exact HN24.out) q q
                              obtain ⟨M1, hM1⟩ : ∃ M, kq + 1 = M := ⟨_, rfl⟩
                              have hwM : IntKind.i64.wrap ((kq : Int) + 1) = (M1 : Int) := by rw [IntKind.wrap_i64]; omega
                              rw [hkq, hM1] at HE2
                              have tq := HMM.out.tb.cell (q * 6 + q) _ (cells36_at K1 (by have := HQ.out; omega) (by have := HQ.out; omega))
                              rw [hkq] at tq
                              have fq := HMM.out.tb.free (q * 6 + q)
                              have hq0 : (0 : Int) ≤ (q : Int) := by omega
                              have hql : (q : Int) < 6 := by have := HQ.out; omega
                              clear hkq hM1 hkb
                              go_upto_region 27 with fail
                              go_region
                              have HMN := hide (HMM.out.put (q := q) (r := q) (by have := HQ.out; omega) (by have := HQ.out; omega) M1).drew
                              clear tq fq s0 HMM HSB hwM
                              generalize (w8.setCell ⟨w.heap.size + 1 + 1, q * 6 + q, none⟩ (.int .i64 (M1 : Int))).drew = u9 at *
                              obtain ⟨K2, hK2⟩ : ∃ K2, tab K1 q (more (K1 q) q M1) = K2 := ⟨_, rfl⟩
                              rw [hK2] at HMN HE2
                              clear hK2 HDE HOE
                              generalize L ++ [D] = L2 at *
                              have HL24 : Hid (L2.length ≤ 24) := by have := HN25.out; unfold Hid; omega
                              go_wp2
                              go_loopw [14] (fun v wr => ∃ j : Nat, 1 ≤ j ∧ j ≤ 6 ∧ v = .int .i64 j ∧ Hid (HM w.heap.size w wr (w.heap.size + 1 + 1) L2 (K2) (.slice p9 n2 c9) (.slice pA n2 cA))) (fun v _ => 6 - (intOf v).toNat)
                              case atStart => exact ⟨1, by omega, by omega, rfl, HMN⟩
                              case round =>
                                clear HMN
                                obtain ⟨j, hj1, hj6, rfl, HMM⟩ := hrel
                                by_cases hj5 : j ≤ 5
                                · have hjp : (j : Int) ≤ 5 := by omega
                                  have hj0 : (0 : Int) ≤ (j : Int) := by omega
                                  have hjl : (j : Int) < 6 := by omega
                                  have r0 : wr.cell? ⟨w.heap.size + 1 + 1, j * 6, none⟩ = some (.int .i64 (K2 j 0 : Nat)) := HMM.out.tb.cell (j * 6 + 0) _ (cells36_at K2 (by omega) (by omega))
                                  have r1 : wr.cell? ⟨w.heap.size + 1 + 1, j * 6 + 1, none⟩ = some (.int .i64 (K2 j 1 : Nat)) := HMM.out.tb.cell (j * 6 + 1) _ (cells36_at K2 (by omega) (by omega))
                                  have r2 : wr.cell? ⟨w.heap.size + 1 + 1, j * 6 + 2, none⟩ = some (.int .i64 (K2 j 2 : Nat)) := HMM.out.tb.cell (j * 6 + 2) _ (cells36_at K2 (by omega) (by omega))
                                  have r3 : wr.cell? ⟨w.heap.size + 1 + 1, j * 6 + 3, none⟩ = some (.int .i64 (K2 j 3 : Nat)) := HMM.out.tb.cell (j * 6 + 3) _ (cells36_at K2 (by omega) (by omega))
                                  have r4 : wr.cell? ⟨w.heap.size + 1 + 1, j * 6 + 4, none⟩ = some (.int .i64 (K2 j 4 : Nat)) := HMM.out.tb.cell (j * 6 + 4) _ (cells36_at K2 (by omega) (by omega))
                                  have r5 : wr.cell? ⟨w.heap.size + 1 + 1, j * 6 + 5, none⟩ = some (.int .i64 (K2 j 5 : Nat)) := HMM.out.tb.cell (j * 6 + 5) _ (cells36_at K2 (by omega) (by omega))
                                  have HKN : Hid (∀ W, HM w.heap.size w W (w.heap.size + 1 + 1) L2 (K2) (.slice p9 n2 c9) (.slice pA n2 cA) → Calls Try.prog 22 #[.slice p9 n2 c9, .slice pA n2 cA, .agg #[.int .i64 (K2 j 0 : Nat), .int .i64 (K2 j 1 : Nat), .int .i64 (K2 j 2 : Nat), .int .i64 (K2 j 3 : Nat), .int .i64 (K2 j 4 : Nat), .int .i64 (K2 j 5 : Nat)]] W fun e w' => ∃ p c, e = .returned (.slice p (knA kK (K2 j) L2).length c) ∧ AC w' p (knA kK (K2 j) L2).length (knA kK (K2 j) L2) ∧ CP p (knA kK (K2 j) L2).length c ∧ Below W.heap.size W w') := fun W g => known_any _ _ n2 _ _ L2 (K2 j) W g.rows.1 g.rows.2 HW2.out (by rw [← HN2.out]; exact HL24.out) (fun r => by have := HE2.out.small HL24.out j r; omega)
                                  obtain ⟨y, hy⟩ : ∃ y, num11 (knA kK (K2 j) L2) kK = y := ⟨_, rfl⟩
                                  have hyl : ¬ (y < lo) := by have := told_num HE2.out HW2.out HL24.out j; rw [hy] at this; omega
                                  have HRY : Hid (∀ k : Nat, 1 ≤ k ∧ k ≤ 5 → 0 ≤ rgt11 (knA kK (K2 j) L2) kK (k : Int) lo) := fun k hk => told_rgt HE2.out HW2.out HL24.out HLO.out j hk
                                  have HY := hide hy
                                  clear hy
                                  generalize knA kK (K2 j) L2 = A9 at *
                                  generalize A9.length = n9 at *
                                  go_wp2_with (first | (go_at_call 22; refine (HKN.out _ HMM.out).mono ?_; rintro e wa ⟨pB, cB, rfl, hnB, hcB, hb⟩; have HNB := hide hnB; replace HMM := hide (HMM.out.below HMM.out.size hb); clear hnB hcB hb) | (go_at_call 16; refine (Number11_any pB n9 cB A9 kK _ HNB.out).mono ?_; rintro e wb ⟨rfl, hb⟩; rw [HY.out]; replace HMM := hide (HMM.out.below HMM.out.size hb); replace HNB := hide (HNB.out.below hb); clear hb))
                                  clear r0 r1 r2 r3 r4 r5 hyl HY HKN
                                  go_loopw [16] (fun v wr => ∃ k : Nat, 1 ≤ k ∧ k ≤ 6 ∧ v = .int .i64 k ∧ Hid (HM w.heap.size w wr (w.heap.size + 1 + 1) L2 (K2) (.slice p9 n2 c9) (.slice pA n2 cA)) ∧ Hid (AC wr pB n9 A9)) (fun v _ => 6 - (intOf v).toNat)
                                  case atStart => exact ⟨1, by omega, by omega, rfl, HMM, HNB⟩
                                  case round =>
                                    clear HMM HNB
                                    obtain ⟨k, hk1, hk6, rfl, HMM, HNB⟩ := hrel
                                    by_cases hk5 : k ≤ 5
                                    · have hkp : (k : Int) ≤ 5 := by omega
                                      obtain ⟨y2, hy2⟩ : ∃ y, rgt11 A9 kK (k : Int) lo = y := ⟨_, rfl⟩
                                      have hyl : ¬ (y2 < 0) := by have := HRY.out k ⟨hk1, hk5⟩; rw [hy2] at this; omega
                                      have HY := hide hy2
                                      clear hy2
                                      go_wp2_with (go_at_call 17; refine (Rights11_any pB n9 cB A9 kK (k : Int) lo _ HNB.out).mono ?_; rintro e wb ⟨rfl, hb⟩; rw [HY.out]; replace HMM := hide (HMM.out.below HMM.out.size hb); replace HNB := hide (HNB.out.below hb); clear hb)
                                      go_roundw
                                      case rel => exact ⟨k + 1, by omega, by omega, by go_num, HMM, HNB⟩
                                      case measure => simp [intOf]; omega
                                    · have hkp : ¬ ((k : Int) ≤ 5) := by omega
                                      go_wp2
                                      go_roundw
                                      case rel => exact ⟨j + 1, by omega, by omega, by go_num, HMM⟩
                                      case measure => simp [intOf]; omega
                                · have hjp : ¬ ((j : Int) ≤ 5) := by omega
                                  go_wp2
                                  go_roundw
                                  case rel => exact ⟨i + 1, L2, K2, p9, c9, pA, cA, by omega, by go_num, (by rw [HN2.out]), (by rw [HN2.out]), HE2, HW2, HN25, (show Hid _ by rw [HN2.out]; exact HMM.out)⟩
                                  case measure => simp [intOf]; omega
                          · by_cases hj5 : j ≤ 5
                            · have hfp : (0 : Int) < (f : Int) := by omega
                              have hjp : (j : Int) ≤ 5 := by omega
                              have hj0 : (0 : Int) ≤ (j : Int) := by omega
                              have hjl : (j : Int) < 6 := by omega
                              have hq0 : (0 : Int) ≤ (q : Int) := by omega
                              have hql : (q : Int) < 6 := by omega
                              have hfl : (f : Int) < 6 := by omega
                              have hf1 : (0 : Int) ≤ (f : Int) := by omega
                              have t1 := HMM.out.tb.cell (f * 6 + j) _ (cells36_at _ (by omega) (by omega))
                              have t2 := HMM.out.tb.cell (q * 6 + j) _ (cells36_at _ (by omega) (by omega))
                              rw [jn_f] at t1
                              rw [jn_q] at t2
                              obtain ⟨kf, hkf⟩ : ∃ x, K f j = x := ⟨_, rfl⟩
                              obtain ⟨kq, hkq⟩ : ∃ x, K q j = x := ⟨_, rfl⟩
                              rw [hkf] at t1
                              rw [hkq] at t2
                              by_cases hlt2 : (kq : Int) < (kf : Int)
                              · have hd : decide ((kq : Int) < (kf : Int)) = true := decide_eq_true hlt2
                                have HST := hide (jn_step K q f j)
                                rw [hkf, hkq, show max kq kf = kf by omega] at HST
                                clear hkf hkq
                                go_upto_region 16 with fail
                                generalize hwx : wr = u at *
                                clear hwx
                                refine wp_region_held_drew (S := fun W => Below u.heap.size u W) (by kernel_rfl) ((Below.refl _ u).drew) (fun hS0 => ?_)
                                refine takeInH 0 86 ?v1 rfl rfl (by kernel_rfl) (by kernel_rfl) (by kernel_rfl) (fun _ _ _ h => h) (by kernel_rfl) hS0 ?hy1 ?_
                                case hy1 => (intro W hW; clear hW; go_simp; try rfl)
                                simp only [Act.put, List.setIfInBounds_toArray, List.set_cons_zero, List.set_cons_succ]
                                refine takeInH 1 87 ?v2 rfl rfl (by kernel_rfl) (by kernel_rfl) (by kernel_rfl) (fun _ _ _ h => h) (by kernel_rfl) hS0 ?hy2 ?_
                                case hy2 => (intro W hW; have e0 := bcell hW s0; have e1 := bcell hW s1; have e2 := bcell hW t1; have e3 := bcell hW t2; clear hW; go_simp; try rfl)
                                simp only [Act.put, List.setIfInBounds_toArray, List.set_cons_zero, List.set_cons_succ]
                                refine takeInH 2 88 ?v3 rfl rfl (by kernel_rfl) (by kernel_rfl) (by kernel_rfl) (fun _ _ _ h => h) (by kernel_rfl) hS0 ?hy3 ?_
                                case hy3 => (intro W hW; clear hW; go_simp; try rfl)
                                simp only [Act.put, List.setIfInBounds_toArray, List.set_cons_zero, List.set_cons_succ]
                                refine takeInH 3 89 ?v4 rfl rfl (by kernel_rfl) (by kernel_rfl) (by kernel_rfl) (fun _ _ _ h => h) (by kernel_rfl) hS0 ?hy4 ?_
                                case hy4 => (intro W hW; clear hW; go_simp; try rfl)
                                simp only [Act.put, List.setIfInBounds_toArray, List.set_cons_zero, List.set_cons_succ]
                                refine takeInH 4 90 ?v5 rfl rfl (by kernel_rfl) (by kernel_rfl) (by kernel_rfl) (fun _ _ _ h => h) (by kernel_rfl) hS0 ?hy5 ?_
                                case hy5 => (intro W hW; clear hW; go_simp; try rfl)
                                simp only [Act.put, List.setIfInBounds_toArray, List.set_cons_zero, List.set_cons_succ]
                                refine takeInH 5 91 ?v6 rfl rfl (by kernel_rfl) (by kernel_rfl) (by kernel_rfl) (fun _ _ _ h => h) (by kernel_rfl) hS0 ?hy6 ?_
                                case hy6 => (intro W hW; have e0 := bcell hW s0; have e1 := bcell hW s1; have e2 := bcell hW t1; have e3 := bcell hW t2; clear hW; go_simp; try rfl)
                                simp only [Act.put, List.setIfInBounds_toArray, List.set_cons_zero, List.set_cons_succ]
                                refine takeInH 6 92 ?v7 rfl rfl (by kernel_rfl) (by kernel_rfl) (by kernel_rfl) (fun _ _ _ h => h) (by kernel_rfl) hS0 ?hy7 ?_
                                case hy7 => (intro W hW; clear hW; go_simp; try rfl)
                                simp only [Act.put, List.setIfInBounds_toArray, List.set_cons_zero, List.set_cons_succ]
                                refine takeInH 7 93 ?v8 rfl rfl (by kernel_rfl) (by kernel_rfl) (by kernel_rfl) (fun _ _ _ h => h) (by kernel_rfl) hS0 ?hy8 ?_
                                case hy8 => (intro W hW; have e0 := bcell hW s0; have e1 := bcell hW s1; have e2 := bcell hW t1; have e3 := bcell hW t2; clear hW; go_simp; try rfl)
                                simp only [Act.put, List.setIfInBounds_toArray, List.set_cons_zero, List.set_cons_succ]
                                refine takeInH 8 94 ?v9 rfl rfl (by kernel_rfl) (by kernel_rfl) (by kernel_rfl) (fun _ _ _ h => h) (by kernel_rfl) hS0 ?hy9 ?_
                                case hy9 => (intro W hW; clear hW; go_simp; try rfl)
                                simp only [Act.put, List.setIfInBounds_toArray, List.set_cons_zero, List.set_cons_succ]
                                refine takeInH 9 95 ?v10 rfl rfl (by kernel_rfl) (by kernel_rfl) (by kernel_rfl) (fun _ _ _ h => h) (by kernel_rfl) hS0 ?hy10 ?_
                                case hy10 => (intro W hW; clear hW; go_simp; try rfl)
                                simp only [Act.put, List.setIfInBounds_toArray, List.set_cons_zero, List.set_cons_succ]
                                refine takeInH 10 96 ?v11 rfl rfl (by kernel_rfl) (by kernel_rfl) (by kernel_rfl) (fun _ _ _ h => h) (by kernel_rfl) hS0 ?hy11 ?_
                                case hy11 => (intro W hW; clear hW; go_simp; try rfl)
                                simp only [Act.put, List.setIfInBounds_toArray, List.set_cons_zero, List.set_cons_succ]
                                refine takeInH 11 97 ?v12 rfl rfl (by kernel_rfl) (by kernel_rfl) (by kernel_rfl) (fun _ _ _ h => h) (by kernel_rfl) hS0 ?hy12 ?_
                                case hy12 => (intro W hW; have e0 := bcell hW s0; have e1 := bcell hW s1; have e2 := bcell hW t1; have e3 := bcell hW t2; clear hW; go_simp; try rfl)
                                simp only [Act.put, List.setIfInBounds_toArray, List.set_cons_zero, List.set_cons_succ]
                                refine takeInH 12 98 ?v13 rfl rfl (by kernel_rfl) (by kernel_rfl) (by kernel_rfl) (fun _ _ _ h => h) (by kernel_rfl) hS0 ?hy13 ?_
                                case hy13 => (intro W hW; clear hW; go_simp; try rfl)
                                simp only [Act.put, List.setIfInBounds_toArray, List.set_cons_zero, List.set_cons_succ]
                                refine wpAnyH_done (by kernel_rfl) ?_ _
                                have f1 := HMM.out.tb.free (q * 6 + j)
                                clear hS0
                                go_upto_region 17 with fail
                                go_region
                                have HM2 := hide (HMM.out.put (q := q) (r := j) (by omega) (by omega) kf)
                                rw [HST.out] at HM2
                                replace HM2 := hide HM2.out.drew.drew
                                go_wp2
                                go_roundw
                                case rel => exact ⟨j + 1, by omega, by omega, by go_num, (fun h => absurd h hf0), HM2, (show Hid _ from (HSB.out.other HGS.out _ _).drew.drew)⟩
                                case measure => simp [intOf]; omega
                              · have hd : decide ((kq : Int) < (kf : Int)) = false := decide_eq_false hlt2
                                have HSK : Hid (jn K q f j = jn K q f (j + 1)) := jn_skip (by rw [hkf, hkq]; omega)
                                rw [HSK.out] at HMM
                                clear hkf hkq HSK
                                go_upto_region 16 with fail
                                generalize hwx : wr = u at *
                                clear hwx
                                refine wp_region_held_drew (S := fun W => Below u.heap.size u W) (by kernel_rfl) ((Below.refl _ u).drew) (fun hS0 => ?_)
                                refine takeInH 0 86 ?v14 rfl rfl (by kernel_rfl) (by kernel_rfl) (by kernel_rfl) (fun _ _ _ h => h) (by kernel_rfl) hS0 ?hy14 ?_
                                case hy14 => (intro W hW; clear hW; go_simp; try rfl)
                                simp only [Act.put, List.setIfInBounds_toArray, List.set_cons_zero, List.set_cons_succ]
                                refine takeInH 1 87 ?v15 rfl rfl (by kernel_rfl) (by kernel_rfl) (by kernel_rfl) (fun _ _ _ h => h) (by kernel_rfl) hS0 ?hy15 ?_
                                case hy15 => (intro W hW; have e0 := bcell hW s0; have e1 := bcell hW s1; have e2 := bcell hW t1; have e3 := bcell hW t2; clear hW; go_simp; try rfl)
                                simp only [Act.put, List.setIfInBounds_toArray, List.set_cons_zero, List.set_cons_succ]
                                refine takeInH 2 88 ?v16 rfl rfl (by kernel_rfl) (by kernel_rfl) (by kernel_rfl) (fun _ _ _ h => h) (by kernel_rfl) hS0 ?hy16 ?_
                                case hy16 => (intro W hW; clear hW; go_simp; try rfl)
                                simp only [Act.put, List.setIfInBounds_toArray, List.set_cons_zero, List.set_cons_succ]
                                refine takeInH 3 89 ?v17 rfl rfl (by kernel_rfl) (by kernel_rfl) (by kernel_rfl) (fun _ _ _ h => h) (by kernel_rfl) hS0 ?hy17 ?_
                                case hy17 => (intro W hW; clear hW; go_simp; try rfl)
                                simp only [Act.put, List.setIfInBounds_toArray, List.set_cons_zero, List.set_cons_succ]
                                refine takeInH 4 90 ?v18 rfl rfl (by kernel_rfl) (by kernel_rfl) (by kernel_rfl) (fun _ _ _ h => h) (by kernel_rfl) hS0 ?hy18 ?_
                                case hy18 => (intro W hW; clear hW; go_simp; try rfl)
                                simp only [Act.put, List.setIfInBounds_toArray, List.set_cons_zero, List.set_cons_succ]
                                refine takeInH 5 91 ?v19 rfl rfl (by kernel_rfl) (by kernel_rfl) (by kernel_rfl) (fun _ _ _ h => h) (by kernel_rfl) hS0 ?hy19 ?_
                                case hy19 => (intro W hW; have e0 := bcell hW s0; have e1 := bcell hW s1; have e2 := bcell hW t1; have e3 := bcell hW t2; clear hW; go_simp; try rfl)
                                simp only [Act.put, List.setIfInBounds_toArray, List.set_cons_zero, List.set_cons_succ]
                                refine takeInH 6 92 ?v20 rfl rfl (by kernel_rfl) (by kernel_rfl) (by kernel_rfl) (fun _ _ _ h => h) (by kernel_rfl) hS0 ?hy20 ?_
                                case hy20 => (intro W hW; clear hW; go_simp; try rfl)
                                simp only [Act.put, List.setIfInBounds_toArray, List.set_cons_zero, List.set_cons_succ]
                                refine takeInH 7 93 ?v21 rfl rfl (by kernel_rfl) (by kernel_rfl) (by kernel_rfl) (fun _ _ _ h => h) (by kernel_rfl) hS0 ?hy21 ?_
                                case hy21 => (intro W hW; have e0 := bcell hW s0; have e1 := bcell hW s1; have e2 := bcell hW t1; have e3 := bcell hW t2; clear hW; go_simp; try rfl)
                                simp only [Act.put, List.setIfInBounds_toArray, List.set_cons_zero, List.set_cons_succ]
                                refine takeInH 8 94 ?v22 rfl rfl (by kernel_rfl) (by kernel_rfl) (by kernel_rfl) (fun _ _ _ h => h) (by kernel_rfl) hS0 ?hy22 ?_
                                case hy22 => (intro W hW; clear hW; go_simp; try rfl)
                                simp only [Act.put, List.setIfInBounds_toArray, List.set_cons_zero, List.set_cons_succ]
                                refine takeInH 9 95 ?v23 rfl rfl (by kernel_rfl) (by kernel_rfl) (by kernel_rfl) (fun _ _ _ h => h) (by kernel_rfl) hS0 ?hy23 ?_
                                case hy23 => (intro W hW; clear hW; go_simp; try rfl)
                                simp only [Act.put, List.setIfInBounds_toArray, List.set_cons_zero, List.set_cons_succ]
                                refine takeInH 10 96 ?v24 rfl rfl (by kernel_rfl) (by kernel_rfl) (by kernel_rfl) (fun _ _ _ h => h) (by kernel_rfl) hS0 ?hy24 ?_
                                case hy24 => (intro W hW; clear hW; go_simp; try rfl)
                                simp only [Act.put, List.setIfInBounds_toArray, List.set_cons_zero, List.set_cons_succ]
                                refine takeInH 11 97 ?v25 rfl rfl (by kernel_rfl) (by kernel_rfl) (by kernel_rfl) (fun _ _ _ h => h) (by kernel_rfl) hS0 ?hy25 ?_
                                case hy25 => (intro W hW; have e0 := bcell hW s0; have e1 := bcell hW s1; have e2 := bcell hW t1; have e3 := bcell hW t2; clear hW; go_simp; try rfl)
                                simp only [Act.put, List.setIfInBounds_toArray, List.set_cons_zero, List.set_cons_succ]
                                refine takeInH 12 98 ?v26 rfl rfl (by kernel_rfl) (by kernel_rfl) (by kernel_rfl) (fun _ _ _ h => h) (by kernel_rfl) hS0 ?hy26 ?_
                                case hy26 => (intro W hW; clear hW; go_simp; try rfl)
                                simp only [Act.put, List.setIfInBounds_toArray, List.set_cons_zero, List.set_cons_succ]
                                refine wpAnyH_done (by kernel_rfl) ?_ _
                                go_wp2
                                go_roundw
                                case rel => exact ⟨j + 1, by omega, by omega, by go_num, (fun h => absurd h hf0), (show Hid _ from HMM.out.below HMM.out.size hS0), (show Hid _ from HSB.out.below hS0)⟩
                                case measure => simp [intOf]; omega
                            · obtain rfl : j = 6 := by omega
                              have HE1 := hide (HE.out.jn HWF.out q f)
                              obtain ⟨K1, hK1⟩ : ∃ K1, jn K q f 6 = K1 := ⟨_, rfl⟩
                              rw [hK1] at HMM HE1
                              clear hK1 HFJ HJ1 HE
                              have s2 := HSB.out.cell 2 _ rfl
                              have s3 := HSB.out.cell 3 _ rfl
                              have s4 := HSB.out.cell 4 _ rfl
                              have hqq := HQ.out
                              have hq0 : (0 : Int) ≤ (q : Int) := by omega
                              have hql : (q : Int) < 6 := by omega
                              have r0 : wr.cell? ⟨w.heap.size + 1 + 1, q * 6, none⟩ = some (.int .i64 (K1 q 0 : Nat)) := HMM.out.tb.cell (q * 6 + 0) _ (cells36_at K1 (by omega) (by omega))
                              have r1 : wr.cell? ⟨w.heap.size + 1 + 1, q * 6 + 1, none⟩ = some (.int .i64 (K1 q 1 : Nat)) := HMM.out.tb.cell (q * 6 + 1) _ (cells36_at K1 (by omega) (by omega))
                              have r2 : wr.cell? ⟨w.heap.size + 1 + 1, q * 6 + 2, none⟩ = some (.int .i64 (K1 q 2 : Nat)) := HMM.out.tb.cell (q * 6 + 2) _ (cells36_at K1 (by omega) (by omega))
                              have r3 : wr.cell? ⟨w.heap.size + 1 + 1, q * 6 + 3, none⟩ = some (.int .i64 (K1 q 3 : Nat)) := HMM.out.tb.cell (q * 6 + 3) _ (cells36_at K1 (by omega) (by omega))
                              have r4 : wr.cell? ⟨w.heap.size + 1 + 1, q * 6 + 4, none⟩ = some (.int .i64 (K1 q 4 : Nat)) := HMM.out.tb.cell (q * 6 + 4) _ (cells36_at K1 (by omega) (by omega))
                              have r5 : wr.cell? ⟨w.heap.size + 1 + 1, q * 6 + 5, none⟩ = some (.int .i64 (K1 q 5 : Nat)) := HMM.out.tb.cell (q * 6 + 5) _ (cells36_at K1 (by omega) (by omega))
                              have HKN : Hid (∀ W, HM w.heap.size w W (w.heap.size + 1 + 1) L (K1) (.slice p6 nL c6) (.slice p7 nL c7) → Calls Try.prog 22 #[.slice p6 nL c6, .slice p7 nL c7, .agg #[.int .i64 (K1 q 0 : Nat), .int .i64 (K1 q 1 : Nat), .int .i64 (K1 q 2 : Nat), .int .i64 (K1 q 3 : Nat), .int .i64 (K1 q 4 : Nat), .int .i64 (K1 q 5 : Nat)]] W fun e w' => ∃ p c, e = .returned (.slice p (knA kK (K1 q) L).length c) ∧ AC w' p (knA kK (K1 q) L).length (knA kK (K1 q) L) ∧ CP p (knA kK (K1 q) L).length c ∧ Below W.heap.size W w') := fun W g => known_any _ _ nL _ _ L (K1 q) W g.rows.1 g.rows.2 HWF.out HN24.out (fun r => by have := HE1.out.small (by first | exact HN24.out | (rw [HNL.out]; exact HN24.out) | exact HN25.out) q r; omega)
                              have HKA : Hid (may11 (knA kK (K1 q) L) kK (q : Int) lo xn = if rgtA (havA (knA kK (K1 q) L) kK) q lo < xn then 5 else 0) := told_may HWF.out (by rw [HNL.out]; exact HN24.out) HLO.out HQ.out HXN.out
                              obtain ⟨n8, hn8⟩ : ∃ x, (knA kK (K1 q) L).length = x := ⟨_, rfl⟩
                              rw [hn8] at HKN
                              clear hn8 hqq
                              go_upto_region 20 with (go_at_call 22; refine (HKN.out _ HMM.out).mono ?_; rintro e w4 ⟨p8, c8, rfl, hn8, hc8, hb⟩; have HN8 := hide hn8; replace HMM := hide (HMM.out.below HMM.out.size hb); replace HSB := hide (HSB.out.below hb); replace s0 := bcell hb s0; replace s2 := bcell hb s2; replace s3 := bcell hb s3; replace s4 := bcell hb s4; clear hn8 hc8 hb)
                              clear r0 r1 r2 r3 r4 r5 HKN
                              have HDB : Hid (BX (w4.alloc (.cells #[.string ⟨#[107]⟩, .int .i64 (q : Int), .int .i64 0, .int .i64 xn] 24)) w4.heap.size #[.string ⟨#[107]⟩, .int .i64 (q : Int), .int .i64 0, .int .i64 xn] 24) := BX.new w4 _ rfl _ _
                              have H6D : Hid ((Value.slice p6 nL c6).ownBlock ≠ some w4.heap.size) := HMM.out.o6.old (Nat.le_refl _)
                              have H7D : Hid ((Value.slice p7 nL c7).ownBlock ≠ some w4.heap.size) := HMM.out.o7.old (Nat.le_refl _)
                              have HGD : Hid (w4.heap.size ≠ w.heap.size + 1 + 1) := (Nat.ne_of_lt HMM.out.tb.size).symm
                              have HSD : Hid (w4.heap.size ≠ gs) := (Nat.ne_of_lt HSB.out.size).symm
                              have HND : Hid (w.heap.size ≤ w4.heap.size) := HMM.out.size
                              have BQ := hide (bel1 w4 (.cells #[.string ⟨#[107]⟩, .int .i64 (q : Int), .int .i64 0, .int .i64 xn] 24))
                              replace HMM := hide (HMM.out.below HMM.out.size BQ.out)
                              replace HSB := hide (HSB.out.below BQ.out)
                              replace HN8 := hide (HN8.out.below BQ.out)
                              replace s0 := bcell BQ.out s0
                              replace s2 := bcell BQ.out s2
                              replace s3 := bcell BQ.out s3
                              replace s4 := bcell BQ.out s4
                              clear BQ
                              generalize w4.heap.size = gd at *
                              generalize w4.alloc (.cells #[.string ⟨#[107]⟩, .int .i64 (q : Int), .int .i64 0, .int .i64 xn] 24) = u5 at *
                              by_cases hk0 : 0 < xk
                              · by_cases hri : rgtA (havA (knA kK (K1 q) L) kK) q lo < xn
                                · have HMY : Hid (may11 (knA kK (K1 q) L) kK (q : Int) lo xn = 5) := by unfold Hid; rw [HKA.out, if_pos hri]
                                  clear hri
                                  go_wp2_with (go_at_call 18; refine (May11_any p8 n8 c8 (knA kK (K1 q) L) kK (q : Int) lo xn _ HN8.out).mono ?_; rintro e w6 ⟨rfl, hb⟩; rw [HMY.out]; replace HMM := hide (HMM.out.below HMM.out.size hb); replace HSB := hide (HSB.out.below hb); replace HDB := hide (HDB.out.below hb); replace s0 := bcell hb s0; replace s2 := bcell hb s2; replace s3 := bcell hb s3; replace s4 := bcell hb s4; have v2 := HDB.out.cell 2 _ rfl; have v3 := HDB.out.cell 3 _ rfl; have f2 := HDB.out.free 2; have f3 := HDB.out.free 3; clear hb)
                                  go_roundw
                                  case rel => exact ⟨i + 1, L, K1, p6, c6, p7, c7, by omega, by go_num, (by rw [HNL.out]), (by rw [HNL.out]), HE1, HWF, (show Hid _ by have := HLI.out; unfold Hid; rw [HNL.out]; omega), (show Hid _ by rw [HNL.out]; exact HMM.out)⟩
                                  case measure => simp [intOf]; omega
                                · have HMY : Hid (may11 (knA kK (K1 q) L) kK (q : Int) lo xn = 0) := by unfold Hid; rw [HKA.out, if_neg hri]
                                  have HRI : Hid (xn ≤ rgtA (havA (knA kK (K1 q) L) kK) q lo) := Int.not_lt.1 hri
                                  clear hri
                                  by_cases hk1 : xk = 1
                                  · subst hk1
                                    have hwn : IntKind.i64.wrap (-xn) = -xn := by have := HXN.out; rw [IntKind.wrap_i64]; omega
                                    go_upto_region 25 with (go_at_call 18; refine (May11_any p8 n8 c8 (knA kK (K1 q) L) kK (q : Int) lo xn _ HN8.out).mono ?_; rintro e w6 ⟨rfl, hb⟩; rw [HMY.out]; replace HMM := hide (HMM.out.below HMM.out.size hb); replace HSB := hide (HSB.out.below hb); replace HDB := hide (HDB.out.below hb); replace s0 := bcell hb s0; replace s2 := bcell hb s2; replace s3 := bcell hb s3; replace s4 := bcell hb s4; have v2 := HDB.out.cell 2 _ rfl; have v3 := HDB.out.cell 3 _ rfl; have f2 := HDB.out.free 2; have f3 := HDB.out.free 3; clear hb)
                                    replace HMM := hide (HMM.out.far H6D.out H7D.out HGD.out HND.out 3 (.int .i64 (-xn)))
                                    replace HSB := hide (HSB.out.other HSD.out 3 (.int .i64 (-xn)))
                                    replace HDB : Hid (BX (w6.setCell ⟨gd, 3, none⟩ (.int .i64 (-xn))) gd #[.string ⟨#[107]⟩, .int .i64 (q : Int), .int .i64 0, .int .i64 (-xn)] 24) := HDB.out.set 3 (.int .i64 (-xn))
                                    clear s0 s2 s3 s4 v2 v3 f2 f3 hwn HMY HN8
                                    generalize w6.setCell ⟨gd, 3, none⟩ (.int .i64 (-xn)) = u6 at *
                                    obtain ⟨D, hD⟩ : ∃ D : Gd, D = ⟨q, 0, -xn, cntG q L + 1, K1 q⟩ := ⟨_, rfl⟩
                                    have HDE : Hid (encDd D = [.string ⟨#[107]⟩, .int .i64 (q : Int), .int .i64 0, .int .i64 (-xn)]) := by unfold Hid; rw [hD]; rfl
                                    have HOE : Hid (encOf D = [.int .i64 (q : Int)]) := by unfold Hid; rw [hD]; rfl
                                    have HE2 : Hid (EI (baseA lo) (L ++ [D]) (tab K1 q (more (K1 q) q (K1 q q + 1)))) := by
                                      unfold Hid
                                      rw [hD]
                                      exact HE1.out.deed ⟨q, 0, -xn, cntG q L + 1, K1 q⟩ rfl rfl (fun h => by have := HXN.out; first | exact absurd rfl h | (show (0 : Int) ≤ -xn; omega)) (deed_right (key := kK) HE1.out ⟨q, 0, -xn, cntG q L + 1, K1 q⟩ HQ.out xn (by have := HXN.out; omega) (.inr rfl) HRI.out)
                                    have HW2 : Hid (WfG (L ++ [D])) := by
                                      unfold Hid
                                      rw [hD]
                                      exact HWF.out.snoc rfl HQ.out (by have := HT.out; show 0 ≤ 5; omega) (by have := HXN.out; show -9 ≤ -xn ∧ -xn ≤ 9; omega) (fun h => by have := HXN.out; first | exact absurd rfl h | (show (1 : Int) ≤ -xn; omega))
                                    clear hD
                                    have g0 := HDB.out.cell 0 _ rfl
                                    have g1 := HDB.out.cell 1 _ rfl
                                    have g2 := HDB.out.cell 2 _ rfl
                                    have g3 := HDB.out.cell 3 _ rfl
                                    go_wp2_with (at_builtin; refine Stop.at ?_)
                                    unfold Stop
                                    have BQ := hide (bel1 u6 (.cells #[.string ⟨#[107]⟩, .int .i64 (q : Int), .int .i64 0, .int .i64 (-xn)] 24))
                                    replace HMM := hide (HMM.out.below HMM.out.size BQ.out)
                                    replace HSB := hide (HSB.out.below BQ.out)
                                    refine append_rows rfl _ _ 41 rfl Try.underlying41 Try.infoDd rfl (by decide) (by decide) encDd_len encDd_one w.heap.size _ L [D] rfl HMM.out.o6 (some ⟨u6.heap.size, 0, none⟩) 1 1 rfl (fun h => by cases h) (RS.new encDd_len u6 _ rfl [D] _ (by simp [HDE.out]) _ _ 1 rfl (by decide)) (by have := HNL.out; have := HN24.out; simp; omega) HMM.out.size ?_
                                    intro v6 w7 ho6 hg6 hbel6
                                    have HO7 := hide (HMM.out.o7.grown hg6 (HMM.out.o7.apart HMM.out.o6 (by decide)))
                                    have HTB := hide (HMM.out.tb.grown hg6 (HMM.out.o6.off HMM.out.tb (by decide)))
                                    replace HSB := hide (HSB.out.grown hg6 (HMM.out.o6.off HSB.out (by decide)))
                                    have HBL := hide (hbel6 _ HMM.out.bl)
                                    have HGN := hide HMM.out.gn
                                    obtain ⟨p9, c9, e6, _, _⟩ := ho6.open encDd_len
                                    obtain ⟨n2, hn2⟩ : ∃ x, (L ++ [D]).length = x := ⟨_, rfl⟩
                                    have HN2 := hide hn2
                                    have HN25 : Hid ((L ++ [D]).length ≤ i + 1) := by have := HNL.out; have := HLI.out; unfold Hid; simp; omega
                                    rw [hn2] at e6
                                    subst e6
                                    have HO6 := hide ho6
                                    clear ho6 hg6 hbel6 HMM BQ g0 g1 g2 g3 HDB hn2
                                    replace s0 := HSB.out.cell 0 _ rfl
                                    go_wp2_with (at_builtin; refine Stop.at ?_)
                                    unfold Stop
                                    have BQ := hide (bel1 w7 (.cells #[.int .i64 (q : Int)] 3))
                                    have HSZ : Hid (w.heap.size ≤ (w7.alloc (.cells #[.int .i64 (q : Int)] 3)).heap.size) := Nat.le_trans (Nat.le_trans HGN.out (Nat.le_of_lt HTB.out.size)) BQ.out.size
                                    replace HBL := hide (HBL.out.trans (BQ.out.mono (Nat.le_trans HGN.out (Nat.le_of_lt HTB.out.size))))
                                    replace HO6 := hide (HO6.out.below BQ.out)
                                    replace HO7 := hide (HO7.out.below BQ.out)
                                    replace HTB := hide (HTB.out.below BQ.out)
                                    replace HSB := hide (HSB.out.below BQ.out)
                                    refine append_rows rfl _ _ 42 rfl Try.underlying42 Try.infoOf rfl (by decide) (by decide) encOf_len encOf_one w.heap.size _ L [D] rfl HO7.out (some ⟨w7.heap.size, 0, none⟩) 1 1 rfl (fun h => by cases h) (RS.new encOf_len w7 _ rfl [D] _ (by simp [HOE.out]) _ _ 1 rfl (by decide)) (by have := HNL.out; have := HN24.out; simp; omega) HSZ.out ?_
                                    intro v7 w8 ho7 hg7 hbel7
                                    replace HO6 := hide (HO6.out.grown hg7 (HO6.out.apart HO7.out (by decide)))
                                    replace HTB := hide (HTB.out.grown hg7 (HO7.out.off HTB.out (by decide)))
                                    replace HSB := hide (HSB.out.grown hg7 (HO7.out.off HSB.out (by decide)))
                                    replace HBL := hide (hbel7 _ HBL.out)
                                    obtain ⟨pA, cA, e7, _, _⟩ := ho7.open encOf_len
                                    rw [HN2.out] at e7
                                    subst e7
                                    have HMM : Hid (HM w.heap.size w w8 (w.heap.size + 1 + 1) (L ++ [D]) (K1) (.slice p9 n2 c9) (.slice pA n2 cA)) := ⟨HO6.out, ho7, HTB.out, HBL.out, HGN.out⟩
                                    clear ho7 hg7 hbel7 HO6 HO7 HTB HBL HGN BQ HSZ
                                    replace s0 := HSB.out.cell 0 _ rfl
                                    obtain ⟨kq, hkq⟩ : ∃ x, K1 q q = x := ⟨_, rfl⟩
                                    have hkb : kq ≤ 24 := by rw [← hkq]; exact HE1.out.small (by rw [HNL.out]; exact HN24.out) q q
                                    obtain ⟨M1, hM1⟩ : ∃ M, kq + 1 = M := ⟨_, rfl⟩
                                    have hwM : IntKind.i64.wrap ((kq : Int) + 1) = (M1 : Int) := by rw [IntKind.wrap_i64]; omega
                                    rw [hkq, hM1] at HE2
                                    have tq := HMM.out.tb.cell (q * 6 + q) _ (cells36_at K1 (by have := HQ.out; omega) (by have := HQ.out; omega))
                                    rw [hkq] at tq
                                    have fq := HMM.out.tb.free (q * 6 + q)
                                    have hq0 : (0 : Int) ≤ (q : Int) := by omega
                                    have hql : (q : Int) < 6 := by have := HQ.out; omega
                                    clear hkq hM1 hkb
                                    go_upto_region 27 with fail
                                    go_region
                                    have HMN := hide (HMM.out.put (q := q) (r := q) (by have := HQ.out; omega) (by have := HQ.out; omega) M1).drew
                                    clear tq fq s0 HMM HSB hwM
                                    generalize (w8.setCell ⟨w.heap.size + 1 + 1, q * 6 + q, none⟩ (.int .i64 (M1 : Int))).drew = u9 at *
                                    obtain ⟨K2, hK2⟩ : ∃ K2, tab K1 q (more (K1 q) q M1) = K2 := ⟨_, rfl⟩
                                    rw [hK2] at HMN HE2
                                    clear hK2 HDE HOE
                                    generalize L ++ [D] = L2 at *
                                    have HL24 : Hid (L2.length ≤ 24) := by have := HN25.out; unfold Hid; omega
                                    go_wp2
                                    go_loopw [14] (fun v wr => ∃ j : Nat, 1 ≤ j ∧ j ≤ 6 ∧ v = .int .i64 j ∧ Hid (HM w.heap.size w wr (w.heap.size + 1 + 1) L2 (K2) (.slice p9 n2 c9) (.slice pA n2 cA))) (fun v _ => 6 - (intOf v).toNat)
                                    case atStart => exact ⟨1, by omega, by omega, rfl, HMN⟩
                                    case round =>
                                      clear HMN
                                      obtain ⟨j, hj1, hj6, rfl, HMM⟩ := hrel
                                      by_cases hj5 : j ≤ 5
                                      · have hjp : (j : Int) ≤ 5 := by omega
                                        have hj0 : (0 : Int) ≤ (j : Int) := by omega
                                        have hjl : (j : Int) < 6 := by omega
                                        have r0 : wr.cell? ⟨w.heap.size + 1 + 1, j * 6, none⟩ = some (.int .i64 (K2 j 0 : Nat)) := HMM.out.tb.cell (j * 6 + 0) _ (cells36_at K2 (by omega) (by omega))
                                        have r1 : wr.cell? ⟨w.heap.size + 1 + 1, j * 6 + 1, none⟩ = some (.int .i64 (K2 j 1 : Nat)) := HMM.out.tb.cell (j * 6 + 1) _ (cells36_at K2 (by omega) (by omega))
                                        have r2 : wr.cell? ⟨w.heap.size + 1 + 1, j * 6 + 2, none⟩ = some (.int .i64 (K2 j 2 : Nat)) := HMM.out.tb.cell (j * 6 + 2) _ (cells36_at K2 (by omega) (by omega))
                                        have r3 : wr.cell? ⟨w.heap.size + 1 + 1, j * 6 + 3, none⟩ = some (.int .i64 (K2 j 3 : Nat)) := HMM.out.tb.cell (j * 6 + 3) _ (cells36_at K2 (by omega) (by omega))
                                        have r4 : wr.cell? ⟨w.heap.size + 1 + 1, j * 6 + 4, none⟩ = some (.int .i64 (K2 j 4 : Nat)) := HMM.out.tb.cell (j * 6 + 4) _ (cells36_at K2 (by omega) (by omega))
                                        have r5 : wr.cell? ⟨w.heap.size + 1 + 1, j * 6 + 5, none⟩ = some (.int .i64 (K2 j 5 : Nat)) := HMM.out.tb.cell (j * 6 + 5) _ (cells36_at K2 (by omega) (by omega))
                                        have HKN : Hid (∀ W, HM w.heap.size w W (w.heap.size + 1 + 1) L2 (K2) (.slice p9 n2 c9) (.slice pA n2 cA) → Calls Try.prog 22 #[.slice p9 n2 c9, .slice pA n2 cA, .agg #[.int .i64 (K2 j 0 : Nat), .int .i64 (K2 j 1 : Nat), .int .i64 (K2 j 2 : Nat), .int .i64 (K2 j 3 : Nat), .int .i64 (K2 j 4 : Nat), .int .i64 (K2 j 5 : Nat)]] W fun e w' => ∃ p c, e = .returned (.slice p (knA kK (K2 j) L2).length c) ∧ AC w' p (knA kK (K2 j) L2).length (knA kK (K2 j) L2) ∧ CP p (knA kK (K2 j) L2).length c ∧ Below W.heap.size W w') := fun W g => known_any _ _ n2 _ _ L2 (K2 j) W g.rows.1 g.rows.2 HW2.out (by rw [← HN2.out]; exact HL24.out) (fun r => by have := HE2.out.small HL24.out j r; omega)
                                        obtain ⟨y, hy⟩ : ∃ y, num11 (knA kK (K2 j) L2) kK = y := ⟨_, rfl⟩
                                        have hyl : ¬ (y < lo) := by have := told_num HE2.out HW2.out HL24.out j; rw [hy] at this; omega
                                        have HRY : Hid (∀ k : Nat, 1 ≤ k ∧ k ≤ 5 → 0 ≤ rgt11 (knA kK (K2 j) L2) kK (k : Int) lo) := fun k hk => told_rgt HE2.out HW2.out HL24.out HLO.out j hk
                                        have HY := hide hy
                                        clear hy
                                        generalize knA kK (K2 j) L2 = A9 at *
                                        generalize A9.length = n9 at *
                                        go_wp2_with (first | (go_at_call 22; refine (HKN.out _ HMM.out).mono ?_; rintro e wa ⟨pB, cB, rfl, hnB, hcB, hb⟩; have HNB := hide hnB; replace HMM := hide (HMM.out.below HMM.out.size hb); clear hnB hcB hb) | (go_at_call 16; refine (Number11_any pB n9 cB A9 kK _ HNB.out).mono ?_; rintro e wb ⟨rfl, hb⟩; rw [HY.out]; replace HMM := hide (HMM.out.below HMM.out.size hb); replace HNB := hide (HNB.out.below hb); clear hb))
                                        clear r0 r1 r2 r3 r4 r5 hyl HY HKN
                                        go_loopw [16] (fun v wr => ∃ k : Nat, 1 ≤ k ∧ k ≤ 6 ∧ v = .int .i64 k ∧ Hid (HM w.heap.size w wr (w.heap.size + 1 + 1) L2 (K2) (.slice p9 n2 c9) (.slice pA n2 cA)) ∧ Hid (AC wr pB n9 A9)) (fun v _ => 6 - (intOf v).toNat)
                                        case atStart => exact ⟨1, by omega, by omega, rfl, HMM, HNB⟩
                                        case round =>
                                          clear HMM HNB
                                          obtain ⟨k, hk1, hk6, rfl, HMM, HNB⟩ := hrel
                                          by_cases hk5 : k ≤ 5
                                          · have hkp : (k : Int) ≤ 5 := by omega
                                            obtain ⟨y2, hy2⟩ : ∃ y, rgt11 A9 kK (k : Int) lo = y := ⟨_, rfl⟩
                                            have hyl : ¬ (y2 < 0) := by have := HRY.out k ⟨hk1, hk5⟩; rw [hy2] at this; omega
                                            have HY := hide hy2
                                            clear hy2
                                            go_wp2_with (go_at_call 17; refine (Rights11_any pB n9 cB A9 kK (k : Int) lo _ HNB.out).mono ?_; rintro e wb ⟨rfl, hb⟩; rw [HY.out]; replace HMM := hide (HMM.out.below HMM.out.size hb); replace HNB := hide (HNB.out.below hb); clear hb)
                                            go_roundw
                                            case rel => exact ⟨k + 1, by omega, by omega, by go_num, HMM, HNB⟩
                                            case measure => simp [intOf]; omega
                                          · have hkp : ¬ ((k : Int) ≤ 5) := by omega
                                            go_wp2
                                            go_roundw
                                            case rel => exact ⟨j + 1, by omega, by omega, by go_num, HMM⟩
                                            case measure => simp [intOf]; omega
                                      · have hjp : ¬ ((j : Int) ≤ 5) := by omega
                                        go_wp2
                                        go_roundw
                                        case rel => exact ⟨i + 1, L2, K2, p9, c9, pA, cA, by omega, by go_num, (by rw [HN2.out]), (by rw [HN2.out]), HE2, HW2, HN25, (show Hid _ by rw [HN2.out]; exact HMM.out)⟩
                                        case measure => simp [intOf]; omega
                                  · have hk2 : (xk == 1) = false := by rw [beq_eq_false_iff_ne]; exact hk1
                                    go_upto_region 25 with (go_at_call 18; refine (May11_any p8 n8 c8 (knA kK (K1 q) L) kK (q : Int) lo xn _ HN8.out).mono ?_; rintro e w6 ⟨rfl, hb⟩; rw [HMY.out]; replace HMM := hide (HMM.out.below HMM.out.size hb); replace HSB := hide (HSB.out.below hb); replace HDB := hide (HDB.out.below hb); replace s0 := bcell hb s0; replace s2 := bcell hb s2; replace s3 := bcell hb s3; replace s4 := bcell hb s4; have v2 := HDB.out.cell 2 _ rfl; have v3 := HDB.out.cell 3 _ rfl; have f2 := HDB.out.free 2; have f3 := HDB.out.free 3; clear hb)
                                    replace HMM := hide (HMM.out.far H6D.out H7D.out HGD.out HND.out 2 (.int .i64 (t : Int)))
                                    replace HSB := hide (HSB.out.other HSD.out 2 (.int .i64 (t : Int)))
                                    replace HDB : Hid (BX (w6.setCell ⟨gd, 2, none⟩ (.int .i64 (t : Int))) gd #[.string ⟨#[107]⟩, .int .i64 (q : Int), .int .i64 (t : Int), .int .i64 xn] 24) := HDB.out.set 2 (.int .i64 (t : Int))
                                    clear s0 s2 s3 s4 v2 v3 f2 f3 HMY HN8
                                    generalize w6.setCell ⟨gd, 2, none⟩ (.int .i64 (t : Int)) = u6 at *
                                    obtain ⟨D, hD⟩ : ∃ D : Gd, D = ⟨q, t, xn, cntG q L + 1, K1 q⟩ := ⟨_, rfl⟩
                                    have HDE : Hid (encDd D = [.string ⟨#[107]⟩, .int .i64 (q : Int), .int .i64 (t : Int), .int .i64 (xn)]) := by unfold Hid; rw [hD]; rfl
                                    have HOE : Hid (encOf D = [.int .i64 (q : Int)]) := by unfold Hid; rw [hD]; rfl
                                    have HE2 : Hid (EI (baseA lo) (L ++ [D]) (tab K1 q (more (K1 q) q (K1 q q + 1)))) := by
                                      unfold Hid
                                      rw [hD]
                                      exact HE1.out.deed ⟨q, t, xn, cntG q L + 1, K1 q⟩ rfl rfl (fun h => by have := HXN.out; first | exact absurd rfl h | (show (0 : Int) ≤ xn; omega)) (deed_right (key := kK) HE1.out ⟨q, t, xn, cntG q L + 1, K1 q⟩ HQ.out xn (by have := HXN.out; omega) (.inl rfl) HRI.out)
                                    have HW2 : Hid (WfG (L ++ [D])) := by
                                      unfold Hid
                                      rw [hD]
                                      exact HWF.out.snoc rfl HQ.out (by have := HT.out; show t ≤ 5; omega) (by have := HXN.out; show -9 ≤ xn ∧ xn ≤ 9; omega) (fun h => by have := HXN.out; first | exact absurd rfl h | (show (1 : Int) ≤ xn; omega))
                                    clear hD
                                    have g0 := HDB.out.cell 0 _ rfl
                                    have g1 := HDB.out.cell 1 _ rfl
                                    have g2 := HDB.out.cell 2 _ rfl
                                    have g3 := HDB.out.cell 3 _ rfl
                                    go_wp2_with (at_builtin; refine Stop.at ?_)
                                    unfold Stop
                                    have BQ := hide (bel1 u6 (.cells #[.string ⟨#[107]⟩, .int .i64 (q : Int), .int .i64 (t : Int), .int .i64 (xn)] 24))
                                    replace HMM := hide (HMM.out.below HMM.out.size BQ.out)
                                    replace HSB := hide (HSB.out.below BQ.out)
                                    refine append_rows rfl _ _ 41 rfl Try.underlying41 Try.infoDd rfl (by decide) (by decide) encDd_len encDd_one w.heap.size _ L [D] rfl HMM.out.o6 (some ⟨u6.heap.size, 0, none⟩) 1 1 rfl (fun h => by cases h) (RS.new encDd_len u6 _ rfl [D] _ (by simp [HDE.out]) _ _ 1 rfl (by decide)) (by have := HNL.out; have := HN24.out; simp; omega) HMM.out.size ?_
                                    intro v6 w7 ho6 hg6 hbel6
                                    have HO7 := hide (HMM.out.o7.grown hg6 (HMM.out.o7.apart HMM.out.o6 (by decide)))
                                    have HTB := hide (HMM.out.tb.grown hg6 (HMM.out.o6.off HMM.out.tb (by decide)))
                                    replace HSB := hide (HSB.out.grown hg6 (HMM.out.o6.off HSB.out (by decide)))
                                    have HBL := hide (hbel6 _ HMM.out.bl)
                                    have HGN := hide HMM.out.gn
                                    obtain ⟨p9, c9, e6, _, _⟩ := ho6.open encDd_len
                                    obtain ⟨n2, hn2⟩ : ∃ x, (L ++ [D]).length = x := ⟨_, rfl⟩
                                    have HN2 := hide hn2
                                    have HN25 : Hid ((L ++ [D]).length ≤ i + 1) := by have := HNL.out; have := HLI.out; unfold Hid; simp; omega
                                    rw [hn2] at e6
                                    subst e6
                                    have HO6 := hide ho6
                                    clear ho6 hg6 hbel6 HMM BQ g0 g1 g2 g3 HDB hn2
                                    replace s0 := HSB.out.cell 0 _ rfl
                                    go_wp2_with (at_builtin; refine Stop.at ?_)
                                    unfold Stop
                                    have BQ := hide (bel1 w7 (.cells #[.int .i64 (q : Int)] 3))
                                    have HSZ : Hid (w.heap.size ≤ (w7.alloc (.cells #[.int .i64 (q : Int)] 3)).heap.size) := Nat.le_trans (Nat.le_trans HGN.out (Nat.le_of_lt HTB.out.size)) BQ.out.size
                                    replace HBL := hide (HBL.out.trans (BQ.out.mono (Nat.le_trans HGN.out (Nat.le_of_lt HTB.out.size))))
                                    replace HO6 := hide (HO6.out.below BQ.out)
                                    replace HO7 := hide (HO7.out.below BQ.out)
                                    replace HTB := hide (HTB.out.below BQ.out)
                                    replace HSB := hide (HSB.out.below BQ.out)
                                    refine append_rows rfl _ _ 42 rfl Try.underlying42 Try.infoOf rfl (by decide) (by decide) encOf_len encOf_one w.heap.size _ L [D] rfl HO7.out (some ⟨w7.heap.size, 0, none⟩) 1 1 rfl (fun h => by cases h) (RS.new encOf_len w7 _ rfl [D] _ (by simp [HOE.out]) _ _ 1 rfl (by decide)) (by have := HNL.out; have := HN24.out; simp; omega) HSZ.out ?_
                                    intro v7 w8 ho7 hg7 hbel7
                                    replace HO6 := hide (HO6.out.grown hg7 (HO6.out.apart HO7.out (by decide)))
                                    replace HTB := hide (HTB.out.grown hg7 (HO7.out.off HTB.out (by decide)))
                                    replace HSB := hide (HSB.out.grown hg7 (HO7.out.off HSB.out (by decide)))
                                    replace HBL := hide (hbel7 _ HBL.out)
                                    obtain ⟨pA, cA, e7, _, _⟩ := ho7.open encOf_len
                                    rw [HN2.out] at e7
                                    subst e7
                                    have HMM : Hid (HM w.heap.size w w8 (w.heap.size + 1 + 1) (L ++ [D]) (K1) (.slice p9 n2 c9) (.slice pA n2 cA)) := ⟨HO6.out, ho7, HTB.out, HBL.out, HGN.out⟩
                                    clear ho7 hg7 hbel7 HO6 HO7 HTB HBL HGN BQ HSZ
                                    replace s0 := HSB.out.cell 0 _ rfl
                                    obtain ⟨kq, hkq⟩ : ∃ x, K1 q q = x := ⟨_, rfl⟩
                                    have hkb : kq ≤ 24 := by rw [← hkq]; exact HE1.out.small (by rw [HNL.out]; exact HN24.out) q q
                                    obtain ⟨M1, hM1⟩ : ∃ M, kq + 1 = M := ⟨_, rfl⟩
                                    have hwM : IntKind.i64.wrap ((kq : Int) + 1) = (M1 : Int) := by rw [IntKind.wrap_i64]; omega
                                    rw [hkq, hM1] at HE2
                                    have tq := HMM.out.tb.cell (q * 6 + q) _ (cells36_at K1 (by have := HQ.out; omega) (by have := HQ.out; omega))
                                    rw [hkq] at tq
                                    have fq := HMM.out.tb.free (q * 6 + q)
                                    have hq0 : (0 : Int) ≤ (q : Int) := by omega
                                    have hql : (q : Int) < 6 := by have := HQ.out; omega
                                    clear hkq hM1 hkb
                                    go_upto_region 27 with fail
                                    go_region
                                    have HMN := hide (HMM.out.put (q := q) (r := q) (by have := HQ.out; omega) (by have := HQ.out; omega) M1).drew
                                    clear tq fq s0 HMM HSB hwM
                                    generalize (w8.setCell ⟨w.heap.size + 1 + 1, q * 6 + q, none⟩ (.int .i64 (M1 : Int))).drew = u9 at *
                                    obtain ⟨K2, hK2⟩ : ∃ K2, tab K1 q (more (K1 q) q M1) = K2 := ⟨_, rfl⟩
                                    rw [hK2] at HMN HE2
                                    clear hK2 HDE HOE
                                    generalize L ++ [D] = L2 at *
                                    have HL24 : Hid (L2.length ≤ 24) := by have := HN25.out; unfold Hid; omega
                                    go_wp2
                                    go_loopw [14] (fun v wr => ∃ j : Nat, 1 ≤ j ∧ j ≤ 6 ∧ v = .int .i64 j ∧ Hid (HM w.heap.size w wr (w.heap.size + 1 + 1) L2 (K2) (.slice p9 n2 c9) (.slice pA n2 cA))) (fun v _ => 6 - (intOf v).toNat)
                                    case atStart => exact ⟨1, by omega, by omega, rfl, HMN⟩
                                    case round =>
                                      clear HMN
                                      obtain ⟨j, hj1, hj6, rfl, HMM⟩ := hrel
                                      by_cases hj5 : j ≤ 5
                                      · have hjp : (j : Int) ≤ 5 := by omega
                                        have hj0 : (0 : Int) ≤ (j : Int) := by omega
                                        have hjl : (j : Int) < 6 := by omega
                                        have r0 : wr.cell? ⟨w.heap.size + 1 + 1, j * 6, none⟩ = some (.int .i64 (K2 j 0 : Nat)) := HMM.out.tb.cell (j * 6 + 0) _ (cells36_at K2 (by omega) (by omega))
                                        have r1 : wr.cell? ⟨w.heap.size + 1 + 1, j * 6 + 1, none⟩ = some (.int .i64 (K2 j 1 : Nat)) := HMM.out.tb.cell (j * 6 + 1) _ (cells36_at K2 (by omega) (by omega))
                                        have r2 : wr.cell? ⟨w.heap.size + 1 + 1, j * 6 + 2, none⟩ = some (.int .i64 (K2 j 2 : Nat)) := HMM.out.tb.cell (j * 6 + 2) _ (cells36_at K2 (by omega) (by omega))
                                        have r3 : wr.cell? ⟨w.heap.size + 1 + 1, j * 6 + 3, none⟩ = some (.int .i64 (K2 j 3 : Nat)) := HMM.out.tb.cell (j * 6 + 3) _ (cells36_at K2 (by omega) (by omega))
                                        have r4 : wr.cell? ⟨w.heap.size + 1 + 1, j * 6 + 4, none⟩ = some (.int .i64 (K2 j 4 : Nat)) := HMM.out.tb.cell (j * 6 + 4) _ (cells36_at K2 (by omega) (by omega))
                                        have r5 : wr.cell? ⟨w.heap.size + 1 + 1, j * 6 + 5, none⟩ = some (.int .i64 (K2 j 5 : Nat)) := HMM.out.tb.cell (j * 6 + 5) _ (cells36_at K2 (by omega) (by omega))
                                        have HKN : Hid (∀ W, HM w.heap.size w W (w.heap.size + 1 + 1) L2 (K2) (.slice p9 n2 c9) (.slice pA n2 cA) → Calls Try.prog 22 #[.slice p9 n2 c9, .slice pA n2 cA, .agg #[.int .i64 (K2 j 0 : Nat), .int .i64 (K2 j 1 : Nat), .int .i64 (K2 j 2 : Nat), .int .i64 (K2 j 3 : Nat), .int .i64 (K2 j 4 : Nat), .int .i64 (K2 j 5 : Nat)]] W fun e w' => ∃ p c, e = .returned (.slice p (knA kK (K2 j) L2).length c) ∧ AC w' p (knA kK (K2 j) L2).length (knA kK (K2 j) L2) ∧ CP p (knA kK (K2 j) L2).length c ∧ Below W.heap.size W w') := fun W g => known_any _ _ n2 _ _ L2 (K2 j) W g.rows.1 g.rows.2 HW2.out (by rw [← HN2.out]; exact HL24.out) (fun r => by have := HE2.out.small HL24.out j r; omega)
                                        obtain ⟨y, hy⟩ : ∃ y, num11 (knA kK (K2 j) L2) kK = y := ⟨_, rfl⟩
                                        have hyl : ¬ (y < lo) := by have := told_num HE2.out HW2.out HL24.out j; rw [hy] at this; omega
                                        have HRY : Hid (∀ k : Nat, 1 ≤ k ∧ k ≤ 5 → 0 ≤ rgt11 (knA kK (K2 j) L2) kK (k : Int) lo) := fun k hk => told_rgt HE2.out HW2.out HL24.out HLO.out j hk
                                        have HY := hide hy
                                        clear hy
                                        generalize knA kK (K2 j) L2 = A9 at *
                                        generalize A9.length = n9 at *
                                        go_wp2_with (first | (go_at_call 22; refine (HKN.out _ HMM.out).mono ?_; rintro e wa ⟨pB, cB, rfl, hnB, hcB, hb⟩; have HNB := hide hnB; replace HMM := hide (HMM.out.below HMM.out.size hb); clear hnB hcB hb) | (go_at_call 16; refine (Number11_any pB n9 cB A9 kK _ HNB.out).mono ?_; rintro e wb ⟨rfl, hb⟩; rw [HY.out]; replace HMM := hide (HMM.out.below HMM.out.size hb); replace HNB := hide (HNB.out.below hb); clear hb))
                                        clear r0 r1 r2 r3 r4 r5 hyl HY HKN
                                        go_loopw [16] (fun v wr => ∃ k : Nat, 1 ≤ k ∧ k ≤ 6 ∧ v = .int .i64 k ∧ Hid (HM w.heap.size w wr (w.heap.size + 1 + 1) L2 (K2) (.slice p9 n2 c9) (.slice pA n2 cA)) ∧ Hid (AC wr pB n9 A9)) (fun v _ => 6 - (intOf v).toNat)
                                        case atStart => exact ⟨1, by omega, by omega, rfl, HMM, HNB⟩
                                        case round =>
                                          clear HMM HNB
                                          obtain ⟨k, hk1, hk6, rfl, HMM, HNB⟩ := hrel
                                          by_cases hk5 : k ≤ 5
                                          · have hkp : (k : Int) ≤ 5 := by omega
                                            obtain ⟨y2, hy2⟩ : ∃ y, rgt11 A9 kK (k : Int) lo = y := ⟨_, rfl⟩
                                            have hyl : ¬ (y2 < 0) := by have := HRY.out k ⟨hk1, hk5⟩; rw [hy2] at this; omega
                                            have HY := hide hy2
                                            clear hy2
                                            go_wp2_with (go_at_call 17; refine (Rights11_any pB n9 cB A9 kK (k : Int) lo _ HNB.out).mono ?_; rintro e wb ⟨rfl, hb⟩; rw [HY.out]; replace HMM := hide (HMM.out.below HMM.out.size hb); replace HNB := hide (HNB.out.below hb); clear hb)
                                            go_roundw
                                            case rel => exact ⟨k + 1, by omega, by omega, by go_num, HMM, HNB⟩
                                            case measure => simp [intOf]; omega
                                          · have hkp : ¬ ((k : Int) ≤ 5) := by omega
                                            go_wp2
                                            go_roundw
                                            case rel => exact ⟨j + 1, by omega, by omega, by go_num, HMM⟩
                                            case measure => simp [intOf]; omega
                                      · have hjp : ¬ ((j : Int) ≤ 5) := by omega
                                        go_wp2
                                        go_roundw
                                        case rel => exact ⟨i + 1, L2, K2, p9, c9, pA, cA, by omega, by go_num, (by rw [HN2.out]), (by rw [HN2.out]), HE2, HW2, HN25, (show Hid _ by rw [HN2.out]; exact HMM.out)⟩
                                        case measure => simp [intOf]; omega
                              · go_upto_region 25 with fail
                                clear s0 s2 s3 s4 HN8
                                generalize u5 = u6 at *
                                obtain ⟨D, hD⟩ : ∃ D : Gd, D = ⟨q, 0, xn, cntG q L + 1, K1 q⟩ := ⟨_, rfl⟩
                                have HDE : Hid (encDd D = [.string ⟨#[107]⟩, .int .i64 (q : Int), .int .i64 0, .int .i64 (xn)]) := by unfold Hid; rw [hD]; rfl
                                have HOE : Hid (encOf D = [.int .i64 (q : Int)]) := by unfold Hid; rw [hD]; rfl
                                have HE2 : Hid (EI (baseA lo) (L ++ [D]) (tab K1 q (more (K1 q) q (K1 q q + 1)))) := by
                                  unfold Hid
                                  rw [hD]
                                  exact HE1.out.deed ⟨q, 0, xn, cntG q L + 1, K1 q⟩ rfl rfl (fun h => by have := HXN.out; first | exact absurd rfl h | (show (0 : Int) ≤ xn; omega)) (eff_up HE1.out ⟨q, 0, xn, cntG q L + 1, K1 q⟩ rfl (by have := HXN.out; show (0 : Int) ≤ xn; omega))
                                have HW2 : Hid (WfG (L ++ [D])) := by
                                  unfold Hid
                                  rw [hD]
                                  exact HWF.out.snoc rfl HQ.out (by have := HT.out; show 0 ≤ 5; omega) (by have := HXN.out; show -9 ≤ xn ∧ xn ≤ 9; omega) (fun h => by have := HXN.out; first | exact absurd rfl h | (show (1 : Int) ≤ xn; omega))
                                clear hD
                                have g0 := HDB.out.cell 0 _ rfl
                                have g1 := HDB.out.cell 1 _ rfl
                                have g2 := HDB.out.cell 2 _ rfl
                                have g3 := HDB.out.cell 3 _ rfl
                                go_wp2_with (at_builtin; refine Stop.at ?_)
                                unfold Stop
                                have BQ := hide (bel1 u6 (.cells #[.string ⟨#[107]⟩, .int .i64 (q : Int), .int .i64 0, .int .i64 (xn)] 24))
                                replace HMM := hide (HMM.out.below HMM.out.size BQ.out)
                                replace HSB := hide (HSB.out.below BQ.out)
                                refine append_rows rfl _ _ 41 rfl Try.underlying41 Try.infoDd rfl (by decide) (by decide) encDd_len encDd_one w.heap.size _ L [D] rfl HMM.out.o6 (some ⟨u6.heap.size, 0, none⟩) 1 1 rfl (fun h => by cases h) (RS.new encDd_len u6 _ rfl [D] _ (by simp [HDE.out]) _ _ 1 rfl (by decide)) (by have := HNL.out; have := HN24.out; simp; omega) HMM.out.size ?_
                                intro v6 w7 ho6 hg6 hbel6
                                have HO7 := hide (HMM.out.o7.grown hg6 (HMM.out.o7.apart HMM.out.o6 (by decide)))
                                have HTB := hide (HMM.out.tb.grown hg6 (HMM.out.o6.off HMM.out.tb (by decide)))
                                replace HSB := hide (HSB.out.grown hg6 (HMM.out.o6.off HSB.out (by decide)))
                                have HBL := hide (hbel6 _ HMM.out.bl)
                                have HGN := hide HMM.out.gn
                                obtain ⟨p9, c9, e6, _, _⟩ := ho6.open encDd_len
                                obtain ⟨n2, hn2⟩ : ∃ x, (L ++ [D]).length = x := ⟨_, rfl⟩
                                have HN2 := hide hn2
                                have HN25 : Hid ((L ++ [D]).length ≤ i + 1) := by have := HNL.out; have := HLI.out; unfold Hid; simp; omega
                                rw [hn2] at e6
                                subst e6
                                have HO6 := hide ho6
                                clear ho6 hg6 hbel6 HMM BQ g0 g1 g2 g3 HDB hn2
                                replace s0 := HSB.out.cell 0 _ rfl
                                go_wp2_with (at_builtin; refine Stop.at ?_)
                                unfold Stop
                                have BQ := hide (bel1 w7 (.cells #[.int .i64 (q : Int)] 3))
                                have HSZ : Hid (w.heap.size ≤ (w7.alloc (.cells #[.int .i64 (q : Int)] 3)).heap.size) := Nat.le_trans (Nat.le_trans HGN.out (Nat.le_of_lt HTB.out.size)) BQ.out.size
                                replace HBL := hide (HBL.out.trans (BQ.out.mono (Nat.le_trans HGN.out (Nat.le_of_lt HTB.out.size))))
                                replace HO6 := hide (HO6.out.below BQ.out)
                                replace HO7 := hide (HO7.out.below BQ.out)
                                replace HTB := hide (HTB.out.below BQ.out)
                                replace HSB := hide (HSB.out.below BQ.out)
                                refine append_rows rfl _ _ 42 rfl Try.underlying42 Try.infoOf rfl (by decide) (by decide) encOf_len encOf_one w.heap.size _ L [D] rfl HO7.out (some ⟨w7.heap.size, 0, none⟩) 1 1 rfl (fun h => by cases h) (RS.new encOf_len w7 _ rfl [D] _ (by simp [HOE.out]) _ _ 1 rfl (by decide)) (by have := HNL.out; have := HN24.out; simp; omega) HSZ.out ?_
                                intro v7 w8 ho7 hg7 hbel7
                                replace HO6 := hide (HO6.out.grown hg7 (HO6.out.apart HO7.out (by decide)))
                                replace HTB := hide (HTB.out.grown hg7 (HO7.out.off HTB.out (by decide)))
                                replace HSB := hide (HSB.out.grown hg7 (HO7.out.off HSB.out (by decide)))
                                replace HBL := hide (hbel7 _ HBL.out)
                                obtain ⟨pA, cA, e7, _, _⟩ := ho7.open encOf_len
                                rw [HN2.out] at e7
                                subst e7
                                have HMM : Hid (HM w.heap.size w w8 (w.heap.size + 1 + 1) (L ++ [D]) (K1) (.slice p9 n2 c9) (.slice pA n2 cA)) := ⟨HO6.out, ho7, HTB.out, HBL.out, HGN.out⟩
                                clear ho7 hg7 hbel7 HO6 HO7 HTB HBL HGN BQ HSZ
                                replace s0 := HSB.out.cell 0 _ rfl
                                obtain ⟨kq, hkq⟩ : ∃ x, K1 q q = x := ⟨_, rfl⟩
                                have hkb : kq ≤ 24 := by rw [← hkq]; exact HE1.out.small (by rw [HNL.out]; exact HN24.out) q q
                                obtain ⟨M1, hM1⟩ : ∃ M, kq + 1 = M := ⟨_, rfl⟩
                                have hwM : IntKind.i64.wrap ((kq : Int) + 1) = (M1 : Int) := by rw [IntKind.wrap_i64]; omega
                                rw [hkq, hM1] at HE2
                                have tq := HMM.out.tb.cell (q * 6 + q) _ (cells36_at K1 (by have := HQ.out; omega) (by have := HQ.out; omega))
                                rw [hkq] at tq
                                have fq := HMM.out.tb.free (q * 6 + q)
                                have hq0 : (0 : Int) ≤ (q : Int) := by omega
                                have hql : (q : Int) < 6 := by have := HQ.out; omega
                                clear hkq hM1 hkb
                                go_upto_region 27 with fail
                                go_region
                                have HMN := hide (HMM.out.put (q := q) (r := q) (by have := HQ.out; omega) (by have := HQ.out; omega) M1).drew
                                clear tq fq s0 HMM HSB hwM
                                generalize (w8.setCell ⟨w.heap.size + 1 + 1, q * 6 + q, none⟩ (.int .i64 (M1 : Int))).drew = u9 at *
                                obtain ⟨K2, hK2⟩ : ∃ K2, tab K1 q (more (K1 q) q M1) = K2 := ⟨_, rfl⟩
                                rw [hK2] at HMN HE2
                                clear hK2 HDE HOE
                                generalize L ++ [D] = L2 at *
                                have HL24 : Hid (L2.length ≤ 24) := by have := HN25.out; unfold Hid; omega
                                go_wp2
                                go_loopw [14] (fun v wr => ∃ j : Nat, 1 ≤ j ∧ j ≤ 6 ∧ v = .int .i64 j ∧ Hid (HM w.heap.size w wr (w.heap.size + 1 + 1) L2 (K2) (.slice p9 n2 c9) (.slice pA n2 cA))) (fun v _ => 6 - (intOf v).toNat)
                                case atStart => exact ⟨1, by omega, by omega, rfl, HMN⟩
                                case round =>
                                  clear HMN
                                  obtain ⟨j, hj1, hj6, rfl, HMM⟩ := hrel
                                  by_cases hj5 : j ≤ 5
                                  · have hjp : (j : Int) ≤ 5 := by omega
                                    have hj0 : (0 : Int) ≤ (j : Int) := by omega
                                    have hjl : (j : Int) < 6 := by omega
                                    have r0 : wr.cell? ⟨w.heap.size + 1 + 1, j * 6, none⟩ = some (.int .i64 (K2 j 0 : Nat)) := HMM.out.tb.cell (j * 6 + 0) _ (cells36_at K2 (by omega) (by omega))
                                    have r1 : wr.cell? ⟨w.heap.size + 1 + 1, j * 6 + 1, none⟩ = some (.int .i64 (K2 j 1 : Nat)) := HMM.out.tb.cell (j * 6 + 1) _ (cells36_at K2 (by omega) (by omega))
                                    have r2 : wr.cell? ⟨w.heap.size + 1 + 1, j * 6 + 2, none⟩ = some (.int .i64 (K2 j 2 : Nat)) := HMM.out.tb.cell (j * 6 + 2) _ (cells36_at K2 (by omega) (by omega))
                                    have r3 : wr.cell? ⟨w.heap.size + 1 + 1, j * 6 + 3, none⟩ = some (.int .i64 (K2 j 3 : Nat)) := HMM.out.tb.cell (j * 6 + 3) _ (cells36_at K2 (by omega) (by omega))
                                    have r4 : wr.cell? ⟨w.heap.size + 1 + 1, j * 6 + 4, none⟩ = some (.int .i64 (K2 j 4 : Nat)) := HMM.out.tb.cell (j * 6 + 4) _ (cells36_at K2 (by omega) (by omega))
                                    have r5 : wr.cell? ⟨w.heap.size + 1 + 1, j * 6 + 5, none⟩ = some (.int .i64 (K2 j 5 : Nat)) := HMM.out.tb.cell (j * 6 + 5) _ (cells36_at K2 (by omega) (by omega))
                                    have HKN : Hid (∀ W, HM w.heap.size w W (w.heap.size + 1 + 1) L2 (K2) (.slice p9 n2 c9) (.slice pA n2 cA) → Calls Try.prog 22 #[.slice p9 n2 c9, .slice pA n2 cA, .agg #[.int .i64 (K2 j 0 : Nat), .int .i64 (K2 j 1 : Nat), .int .i64 (K2 j 2 : Nat), .int .i64 (K2 j 3 : Nat), .int .i64 (K2 j 4 : Nat), .int .i64 (K2 j 5 : Nat)]] W fun e w' => ∃ p c, e = .returned (.slice p (knA kK (K2 j) L2).length c) ∧ AC w' p (knA kK (K2 j) L2).length (knA kK (K2 j) L2) ∧ CP p (knA kK (K2 j) L2).length c ∧ Below W.heap.size W w') := fun W g => known_any _ _ n2 _ _ L2 (K2 j) W g.rows.1 g.rows.2 HW2.out (by rw [← HN2.out]; exact HL24.out) (fun r => by have := HE2.out.small HL24.out j r; omega)
                                    obtain ⟨y, hy⟩ : ∃ y, num11 (knA kK (K2 j) L2) kK = y := ⟨_, rfl⟩
                                    have hyl : ¬ (y < lo) := by have := told_num HE2.out HW2.out HL24.out j; rw [hy] at this; omega
                                    have HRY : Hid (∀ k : Nat, 1 ≤ k ∧ k ≤ 5 → 0 ≤ rgt11 (knA kK (K2 j) L2) kK (k : Int) lo) := fun k hk => told_rgt HE2.out HW2.out HL24.out HLO.out j hk
                                    have HY := hide hy
                                    clear hy
                                    generalize knA kK (K2 j) L2 = A9 at *
                                    generalize A9.length = n9 at *
                                    go_wp2_with (first | (go_at_call 22; refine (HKN.out _ HMM.out).mono ?_; rintro e wa ⟨pB, cB, rfl, hnB, hcB, hb⟩; have HNB := hide hnB; replace HMM := hide (HMM.out.below HMM.out.size hb); clear hnB hcB hb) | (go_at_call 16; refine (Number11_any pB n9 cB A9 kK _ HNB.out).mono ?_; rintro e wb ⟨rfl, hb⟩; rw [HY.out]; replace HMM := hide (HMM.out.below HMM.out.size hb); replace HNB := hide (HNB.out.below hb); clear hb))
                                    clear r0 r1 r2 r3 r4 r5 hyl HY HKN
                                    go_loopw [16] (fun v wr => ∃ k : Nat, 1 ≤ k ∧ k ≤ 6 ∧ v = .int .i64 k ∧ Hid (HM w.heap.size w wr (w.heap.size + 1 + 1) L2 (K2) (.slice p9 n2 c9) (.slice pA n2 cA)) ∧ Hid (AC wr pB n9 A9)) (fun v _ => 6 - (intOf v).toNat)
                                    case atStart => exact ⟨1, by omega, by omega, rfl, HMM, HNB⟩
                                    case round =>
                                      clear HMM HNB
                                      obtain ⟨k, hk1, hk6, rfl, HMM, HNB⟩ := hrel
                                      by_cases hk5 : k ≤ 5
                                      · have hkp : (k : Int) ≤ 5 := by omega
                                        obtain ⟨y2, hy2⟩ : ∃ y, rgt11 A9 kK (k : Int) lo = y := ⟨_, rfl⟩
                                        have hyl : ¬ (y2 < 0) := by have := HRY.out k ⟨hk1, hk5⟩; rw [hy2] at this; omega
                                        have HY := hide hy2
                                        clear hy2
                                        go_wp2_with (go_at_call 17; refine (Rights11_any pB n9 cB A9 kK (k : Int) lo _ HNB.out).mono ?_; rintro e wb ⟨rfl, hb⟩; rw [HY.out]; replace HMM := hide (HMM.out.below HMM.out.size hb); replace HNB := hide (HNB.out.below hb); clear hb)
                                        go_roundw
                                        case rel => exact ⟨k + 1, by omega, by omega, by go_num, HMM, HNB⟩
                                        case measure => simp [intOf]; omega
                                      · have hkp : ¬ ((k : Int) ≤ 5) := by omega
                                        go_wp2
                                        go_roundw
                                        case rel => exact ⟨j + 1, by omega, by omega, by go_num, HMM⟩
                                        case measure => simp [intOf]; omega
                                  · have hjp : ¬ ((j : Int) ≤ 5) := by omega
                                    go_wp2
                                    go_roundw
                                    case rel => exact ⟨i + 1, L2, K2, p9, c9, pA, cA, by omega, by go_num, (by rw [HN2.out]), (by rw [HN2.out]), HE2, HW2, HN25, (show Hid _ by rw [HN2.out]; exact HMM.out)⟩
                                    case measure => simp [intOf]; omega
      · obtain rfl : i = n := by omega
        have HB : Hid (Below w.heap.size w wr) := HMM.out.bl
        go_wp2_with (go_at_call 8; refine (awake11 _).mono ?_; rintro e wz ⟨rfl, hb⟩)
        go_ret
        exact ⟨rfl, bel_next HB.out hb⟩
  · have BB := hide (Below.refl w.heap.size w)
    go_wp2_with (go_at_call 8; refine (awake11 _).mono ?_; rintro e wz ⟨rfl, hb⟩)
    go_ret
    exact ⟨rfl, bel_next BB.out hb⟩

/-! ### The row's step -/
set_option maxRecDepth 100000 in
theorem lifted (os : Os) (started : os.Started) (H : Type) (enc : TypeId × Value → H) :
    ReturnsInHanded {} Try.checked os 5 .any (Rows.escrowHoldsSpec.pre6 enc Try.prog Try.f5 Rows.escrowHoldsRow.domain false) (Rows.escrowHoldsSpec.post enc Try.prog Try.f5 false true false false) := by
  refine returnsInHanded_of_change_sized (C := Try.checked) own started (by kernel_rfl) Try.func5
    (ChangeSpec.witness6 (enc := enc) (C := Try.checked) false ⟨#[], #[.slice none 0 0, .int .u8 0], []⟩ 8 (by kernel_rfl) (by kernel_rfl) (by kernel_rfl) (by kernel_rfl)) ?_
  intro W base args ds gs before hval0 hW hcnd hz0 _
  have hval : ∀ (j : Nat) t v, Try.f5.params[j]? = some t → args[j]? = some v → Value.okWide Try.prog W .any base t v := hval0
  have hz : (DataW.weightsEach Try.prog (Try.f5.params.toList ++ Rows.escrowHoldsSpec.plain.varTypes Try.prog) (ds ++ gs)).all (· ≤ reachBytes) = true := hz0
  have hW' := hW
  obtain ⟨p, q, hA0, hV, rfl, hfz, hnd⟩ := hW
  have hA : DataW.TrodAll enc Try.prog W 0 (fun _ => true) true Try.f5.params.toList args.toList ds p := hA0
  rw [Try.params5] at hA hval hz
  obtain ⟨v0, vs0, d0, ds0, p0, q0, hargs, rfl, rfl, h0, r0⟩ := trodAll_cons hA
  obtain ⟨v1, vs1, d1, ds1, p1, q1, rfl, rfl, rfl, h1, r1⟩ := trodAll_cons r0
  obtain ⟨rfl, rfl, rfl⟩ := trodAll_nil r1
  obtain rfl : args = #[v0, v1] := by cases args; simp_all
  obtain ⟨rfl, rfl⟩ := trodVars_none hV
  have k0 := h0
  have lt0 : ∀ x ∈ p0, x.block < W.heap.size := by obtain ⟨m, hm⟩ := k0; exact DataW.trod_lt m _ _ _ hm
  have w0 : InSp11 W v0 := in_steps11 (hval 0 40 v0 rfl rfl) h0 (fun n hn => by have := List.all_eq_true.1 hz n (DataW.weights_mem_each (j := 0) (t := 40) rfl rfl n hn); simpa using this)
  obtain ⟨a1, rfl, rfl, rfl, w1⟩ := open_int Try.underlying5 (hval 1 5 v1 rfl rfl) h1
  clear hA0 hval0 hz0
  refine (walk v0 a1 W w0 w1).mono fun e W' ⟨he, bel⟩ => ?_
  subst he
  exact ⟨_, rfl, _, _, _, [], _, [], hW', trodAll_mk1 (shut_bool Try.underlying4 _), (trodAll_cons_mk (Below.trod laidOut (by kernel_rfl) (of_decide_eq_true (by kernel_rfl)) k0 bel lt0) (trodAll_cons_mk (shut_int Try.underlying5 w1) trodAll_mk0)), rfl, bel.frame _, fun h => by cases h⟩

theorem over : Rows.escrowHoldsRow.holds Try.pinned (OpenSpec.ofChange Rows.escrowHoldsSpec) :=
  OpenClaim.holds_of_wide 5 Try.f5 rfl rfl rfl rfl rfl rfl rfl ⟨rfl, rfl, rfl, rfl, rfl⟩ rfl rfl rfl rfl rfl (by kernel_rfl) Try.func5 (by kernel_rfl)
    (of_decide_eq_true (by kernel_rfl)) (by unfold Func.isWrapper; first | (rw [if_pos (by decide +kernel)]; kernel_rfl) | (rw [if_neg (by decide +kernel)]; exact ⟨rfl, rfl⟩))
    (fun os started H enc _ => lifted os started H enc)
end Go.Proofs.Ytbihgcmnllajpaa.escrowHolds
namespace Go.Proofs.Ytbihgcmnllajpaa
theorem escrowHolds_holds : Rows.EscrowHoldsSaid := escrowHolds.over
end Go.Proofs.Ytbihgcmnllajpaa
