/- EventOrders is true for every list of events and any two of them: what is ahead of what, the events in order, and whether all that is ahead is there, as the document has it. No condition. -/
import Derived.Test.YtooggheoaglbeaaRows
import Derived.WalkKit
import Derived.ProofKit
import Derived.OpenShut
import Derived.ShutString
import Derived.ChangeOld
import Derived.Below
import Derived.SizedLaws
import Derived.Test.YtooggheoaglbeaaJ8
import Derived.Test.YtooggheoaglbeaaJ10
import Derived.Test.YtooggheoaglbeaaJ6
import Derived.Test.YtooggheoaglbeaaJ13
import Derived.Test.YtooggheoaglbeaaJ14
import Derived.Test.YtooggheoaglbeaaJ15

namespace Go.Proofs.Ytooggheoaglbeaa.eventOrders
open Go.ChangeShapes Go.WideShapes Go.ChangeAt Go.RowKit
set_option linter.unusedVariables false

theorem own : ownKnob Try.prog.godebug = none := by kernel_rfl
theorem laidOut : laidOutB Try.prog = true := by kernel_rfl

theorem u8_bd {n : Int} (h : (Lit.int .u8 n).wf = true) : 0 ≤ n ∧ n < 256 := by
  simp [Lit.wf, IntKind.min, IntKind.max, IntKind.bits, IntKind.signed] at h
  omega
set_option maxHeartbeats 16000000 in
set_option maxRecDepth 100000 in
theorem walk (v0 : Value) (a1 : Int) (a2 : Int) (w : World) (w0 : InEs w v0) (w1 : (Lit.int .u8 a1).wf = true) (w2 : (Lit.int .u8 a2).wf = true) :
    Calls Try.prog 5 #[v0, .int .u8 a1, .int .u8 a2] w fun e w' => e = .returned (.bool true) ∧ Below w.heap.size w w' := by
  obtain ⟨a, n, cap, es, rfl, hE, hCP⟩ := w0
  have HV := hide hE
  have hlen := hide hE.len
  have hCc : n ≤ cap := hCP.1
  have HAW := hide (fun W => awake5 W)
  have i1 := u8_bd w1
  have i2 := u8_bd w2
  clear hE hCP w1 w2
  go_enter Try.func5, Try.ntmps5
  go_wp2_with (go_at_call 8; refine Stop.at ?_)
  unfold Stop
  refine Calls.mono (light6 _ n cap es _ HV.out) ?_
  rintro e w2 ⟨lb, rfl, hlt, hw⟩
  subst hw
  cases lb
  · go_wp2_with (go_at_call 9; refine (HAW.out _).mono ?_; rintro e w3 ⟨rfl, hb⟩)
    go_ret
    exact ⟨rfl, hb⟩
  obtain ⟨hn40, hfew⟩ := hlt rfl
  have HF := hide hfew
  clear hlt hfew
  go_wp2
  go_loopw [7] (fun i wr => ∃ k : Nat, k ≤ n ∧ i = .int .i64 k ∧ wr = w2) (fun i _ => n - (intOf i).toNat)
  case atStart => exact ⟨0, by omega, rfl, rfl⟩
  case round =>
    obtain ⟨k, hk, rfl, hwr⟩ := hrel
    subst hwr
    by_cases hlt : k < n
    · obtain ⟨b, off, rfl⟩ := HV.out.addr (by omega)
      obtain ⟨r, s, pa, na, ca, pe, ne, ce, c, fs, hx, x0, x1, x2, x3, hns, hca, hes, hce⟩ := HV.out.at k hlt
      have HUU := hide (sum_ref pa na ca c _ hns)
      clear hns hca hes hce hx x0 x1 x3
      by_cases h2 : sumL c > 200
      · generalize sumL c = z at HUU h2
        go_wp2_with (first
          | (go_at_call 21; refine HUU.out.mono ?_; rintro e w' ⟨rfl, hw⟩; replace hw := hw.symm; subst hw)
          | (go_at_call 9; refine (HAW.out _).mono ?_; rintro e w3 ⟨rfl, hb⟩))
        go_ret
        exact ⟨rfl, hb⟩
      · generalize sumL c = z at HUU h2
        go_wp2_with (go_at_call 21; refine HUU.out.mono ?_; rintro e w' ⟨rfl, hw⟩; replace hw := hw.symm; subst hw)
        go_roundw
        case rel => exact ⟨k + 1, by omega, by go_num, trivial⟩
        case measure => simp [intOf]; omega
    · have hkz : ¬ (k : Int) < (n : Int) := by omega
      clear hlt hk
      rcases Nat.eq_zero_or_pos n with hn0 | hn0
      · have hnz : ¬ (0 : Int) < (n : Int) := by omega
        clear hn0
        have HBa := hide (Below.refl wr.heap.size wr)
        have HO := hide (fun W (h : EVS W a n es) => Order_evt a n cap es W h (by omega) (fun e he => by
          have q := HF.out e he
          exact ⟨by have := q.1; omega, by have := q.2; omega⟩))
        have HRR := hide (fun W (h : EVS W a n es) => OrderR_evt a n cap es W h (by omega))
        have HCL := hide (fun W (h : EVS W a n es) => Closed_any a n cap es W h (by omega))
        have HCR := hide (fun W (h : EVS W a n es) => ClosedR_any a n cap es W h (by omega) hCc)
        generalize closedB es = cl at HCL HCR
        go_wp2_with (first
          | (go_at_call 25; refine (HO.out _ (HV.out.below HBa.out)).mono ?_; rintro e w3 ⟨p3, c3, rfl, hev, hcp, hb⟩; have HE3 := hide hev; have HB3 := hide (bel_next HBa.out hb); clear hev hcp hb)
          | (go_at_call 26; refine (HRR.out _ (HV.out.below HB3.out)).mono ?_; rintro e w4 ⟨p4, c4, rfl, hev, hb⟩; have HE4 := hide hev; replace HE3 := hide (HE3.out.below hb); have HB4 := hide (bel_next HB3.out hb); clear hev hb)
          | (go_at_call 24; refine (All_same _ _ n _ _ _ _ HE3.out HE4.out).mono ?_; rintro e w5 ⟨rfl, hb⟩; have HB5 := hide (bel_next HB4.out hb); clear hb)
          | (go_at_call 27; refine (HCL.out _ (HV.out.below HB5.out)).mono ?_; rintro e w6 ⟨rfl, hb⟩; have HB6 := hide (bel_next HB5.out hb); clear hb)
          | (go_at_call 28; refine (HCR.out _ (HV.out.below HB6.out)).mono ?_; rintro e w7 ⟨rfl, hb⟩; have HB7 := hide (bel_next HB6.out hb); clear hb)
          | (go_at_call 9; refine (HAW.out _).mono ?_; rintro e w8 ⟨rfl, hb⟩; have HB8 := hide (bel_next HB7.out hb); clear hb))
        go_ret
        exact ⟨rfl, HB8.out⟩
      · have hnz : (0 : Int) < (n : Int) := by omega
        obtain ⟨p, hp⟩ : ∃ p : Nat, (a1 : Int).tmod (n : Int) = (p : Int) := ⟨((a1 : Int).tmod (n : Int)).toNat, by have := Int.tmod_nonneg (b := (n : Int)) (a := a1) i1.1; omega⟩
        obtain ⟨q, hq⟩ : ∃ q : Nat, (a2 : Int).tmod (n : Int) = (q : Int) := ⟨((a2 : Int).tmod (n : Int)).toNat, by have := Int.tmod_nonneg (b := (n : Int)) (a := a2) i2.1; omega⟩
        have hpn : p < n := by have := Int.tmod_lt_of_pos a1 hnz; omega
        have hqn : q < n := by have := Int.tmod_lt_of_pos a2 hnz; omega
        obtain ⟨b, off, rfl⟩ := HV.out.addr (by omega)
        obtain ⟨r, s, pa, na, ca, pe, ne, ce, c, fs, hx, x0, x1, x2, x3, hns, hca, hes, hce⟩ := HV.out.at p hpn
        obtain ⟨r', s', pb, nb, cb, pf, nf, cf, c', fs', hy, y0, y1, y2, y3, hns', hca', hes', hce'⟩ := HV.out.at q hqn
        have N2 := hide hns'
        have hp1 : (0 : Int) ≤ (p : Int) ∧ (p : Int) < (n : Int) := by omega
        have hq1 : (0 : Int) ≤ (q : Int) ∧ (q : Int) < (n : Int) := by omega
        have hnn : ¬ n = 0 := by omega
        have wa1 : IntKind.i64.wrap a1 = a1 := by rw [IntKind.wrap_i64]; omega
        have wa2 : IntKind.i64.wrap a2 = a2 := by rw [IntKind.wrap_i64]; omega
        have wp : IntKind.i64.wrap (p : Int) = (p : Int) := by rw [IntKind.wrap_i64]; omega
        have wq : IntKind.i64.wrap (q : Int) = (q : Int) := by rw [IntKind.wrap_i64]; omega
        clear hns hca hes hce hx hns' hca' hes' hce' hy
        go_wp2
        refine wp_region_held_drew (S := fun W => Below wr.heap.size wr W) (by kernel_rfl) ((Below.refl _ wr).drew) (fun hS0 => ?_)
        refine takeInH 0 31 ?v1 rfl rfl (by kernel_rfl) (by kernel_rfl) (by kernel_rfl) (fun _ _ _ h => h) (by kernel_rfl) hS0 ?hy1 ?_
        case hy1 => (intro W hW; clear hW; go_simp; try rfl)
        simp only [Act.put, List.setIfInBounds_toArray, List.set_cons_zero, List.set_cons_succ]
        refine takeInH 1 32 ?v2 rfl rfl (by kernel_rfl) (by kernel_rfl) (by kernel_rfl) (fun _ _ _ h => h) (by kernel_rfl) hS0 ?hy2 ?_
        case hy2 => (intro W hW; clear hW; go_simp; try rfl)
        simp only [Act.put, List.setIfInBounds_toArray, List.set_cons_zero, List.set_cons_succ]
        refine takeInH 2 33 ?v3 rfl rfl (by kernel_rfl) (by kernel_rfl) (by kernel_rfl) (fun _ _ _ h => h) (by kernel_rfl) hS0 ?hy3 ?_
        case hy3 => (intro W hW; clear hW; go_simp; try rfl)
        simp only [Act.put, List.setIfInBounds_toArray, List.set_cons_zero, List.set_cons_succ]
        refine takeInH 3 34 ?v4 rfl rfl (by kernel_rfl) (by kernel_rfl) (by kernel_rfl) (fun _ _ _ h => h) (by kernel_rfl) hS0 ?hy4 ?_
        case hy4 => (intro W hW; clear hW; go_simp; try rfl)
        simp only [Act.put, List.setIfInBounds_toArray, List.set_cons_zero, List.set_cons_succ]
        refine takeInH 4 35 ?v5 rfl rfl (by kernel_rfl) (by kernel_rfl) (by kernel_rfl) (fun _ _ _ h => h) (by kernel_rfl) hS0 ?hy5 ?_
        case hy5 => (intro W hW; clear hW; go_simp; try rfl)
        simp only [Act.put, List.setIfInBounds_toArray, List.set_cons_zero, List.set_cons_succ]
        refine takeInH 5 36 ?v6 rfl rfl (by kernel_rfl) (by kernel_rfl) (by kernel_rfl) (fun _ _ _ h => h) (by kernel_rfl) hS0 ?hy6 ?_
        case hy6 => (intro W hW; clear hW; go_simp; try rfl)
        simp only [Act.put, List.setIfInBounds_toArray, List.set_cons_zero, List.set_cons_succ]
        refine takeInH 6 37 ?v7 rfl rfl (by kernel_rfl) (by kernel_rfl) (by kernel_rfl) (fun _ _ _ h => h) (by kernel_rfl) hS0 ?hy7 ?_
        case hy7 => (intro W hW; clear hW; go_simp; try rfl)
        simp only [Act.put, List.setIfInBounds_toArray, List.set_cons_zero, List.set_cons_succ]
        refine takeInH 7 38 ?v8 rfl rfl (by kernel_rfl) (by kernel_rfl) (by kernel_rfl) (fun _ _ _ h => h) (by kernel_rfl) hS0 ?hy8 ?_
        case hy8 => (intro W hW; have e0 := bcell hW x0; have e1 := bcell hW x1; have e2 := bcell hW x2; have e3 := bcell hW x3; have e4 := bcell hW y0; have e5 := bcell hW y1; have e6 := bcell hW y2; have e7 := bcell hW y3; clear hW; go_simp; try rfl)
        simp only [Act.put, List.setIfInBounds_toArray, List.set_cons_zero, List.set_cons_succ]
        refine takeInH 8 39 ?v9 rfl rfl (by kernel_rfl) (by kernel_rfl) (by kernel_rfl) (fun _ _ _ h => h) (by kernel_rfl) hS0 ?hy9 ?_
        case hy9 => (intro W hW; clear hW; go_simp; try rfl)
        simp only [Act.put, List.setIfInBounds_toArray, List.set_cons_zero, List.set_cons_succ]
        refine takeInH 9 40 ?v10 rfl rfl (by kernel_rfl) (by kernel_rfl) (by kernel_rfl) (fun _ _ _ h => h) (by kernel_rfl) hS0 ?hy10 ?_
        case hy10 => (intro W hW; clear hW; go_simp; try rfl)
        simp only [Act.put, List.setIfInBounds_toArray, List.set_cons_zero, List.set_cons_succ]
        refine takeInH 10 41 ?v11 rfl rfl (by kernel_rfl) (by kernel_rfl) (by kernel_rfl) (fun _ _ _ h => h) (by kernel_rfl) hS0 ?hy11 ?_
        case hy11 => (intro W hW; clear hW; go_simp; try rfl)
        simp only [Act.put, List.setIfInBounds_toArray, List.set_cons_zero, List.set_cons_succ]
        refine takeInH 11 42 ?v12 rfl rfl (by kernel_rfl) (by kernel_rfl) (by kernel_rfl) (fun _ _ _ h => h) (by kernel_rfl) hS0 ?hy12 ?_
        case hy12 => (intro W hW; clear hW; go_simp; try rfl)
        simp only [Act.put, List.setIfInBounds_toArray, List.set_cons_zero, List.set_cons_succ]
        refine takeInH 12 43 ?v13 rfl rfl (by kernel_rfl) (by kernel_rfl) (by kernel_rfl) (fun _ _ _ h => h) (by kernel_rfl) hS0 ?hy13 ?_
        case hy13 => (intro W hW; clear hW; go_simp; try rfl)
        simp only [Act.put, List.setIfInBounds_toArray, List.set_cons_zero, List.set_cons_succ]
        refine takeInH 13 44 ?v14 rfl rfl (by kernel_rfl) (by kernel_rfl) (by kernel_rfl) (fun _ _ _ h => h) (by kernel_rfl) hS0 ?hy14 ?_
        case hy14 => (intro W hW; clear hW; go_simp; try rfl)
        simp only [Act.put, List.setIfInBounds_toArray, List.set_cons_zero, List.set_cons_succ]
        refine takeInH 14 45 ?v15 rfl rfl (by kernel_rfl) (by kernel_rfl) (by kernel_rfl) (fun _ _ _ h => h) (by kernel_rfl) hS0 ?hy15 ?_
        case hy15 => (intro W hW; clear hW; go_simp; try rfl)
        simp only [Act.put, List.setIfInBounds_toArray, List.set_cons_zero, List.set_cons_succ]
        refine takeInH 15 46 ?v16 rfl rfl (by kernel_rfl) (by kernel_rfl) (by kernel_rfl) (fun _ _ _ h => h) (by kernel_rfl) hS0 ?hy16 ?_
        case hy16 => (intro W hW; have e0 := bcell hW x0; have e1 := bcell hW x1; have e2 := bcell hW x2; have e3 := bcell hW x3; have e4 := bcell hW y0; have e5 := bcell hW y1; have e6 := bcell hW y2; have e7 := bcell hW y3; clear hW; go_simp; try rfl)
        simp only [Act.put, List.setIfInBounds_toArray, List.set_cons_zero, List.set_cons_succ]
        refine wpAnyH_ready (rs := [16, 17]) (by kernel_rfl) (by simp) ?_
        refine AllReadyH.cons rfl (fun K hK => ?_) (AllReadyH.cons rfl (fun K hK => ?_) AllReadyH.nil)
        · go_simp
          try go_wp2_with fail
          refine hK.out _ _ ?hs17 (fun hS1 => ?_)
          case hs17 => exact bel_next hS0 (bel1 _ _)
          clear hK K
          try simp only [Act.put, List.setIfInBounds_toArray, List.set_cons_zero, List.set_cons_succ]
          refine wpAnyH_ready (rs := [17]) (by kernel_rfl) (by simp) ?_
          refine AllReadyH.cons rfl (fun K hK => ?_) AllReadyH.nil
          go_simp
          try go_wp2_with fail
          refine hK.out _ _ ?hs18 (fun hS2 => ?_)
          case hs18 => exact bel_next hS1 (bel1 _ _)
          clear hK K
          try simp only [Act.put, List.setIfInBounds_toArray, List.set_cons_zero, List.set_cons_succ]
          refine wpAnyH_ready (rs := [18]) (by kernel_rfl) (by simp) ?_
          refine AllReadyH.cons rfl (fun K hK => ?_) AllReadyH.nil
          go_simp
          refine hK.out _ _ ?hs19 (fun hS3 => ?_)
          case hs19 => exact (bel2 wr _ _).drew
          clear hK K
          try simp only [Act.put, List.setIfInBounds_toArray, List.set_cons_zero, List.set_cons_succ]
          refine wpAnyH_ready (rs := [19]) (by kernel_rfl) (by simp) ?_
          refine AllReadyH.cons rfl (fun K hK => ?_) AllReadyH.nil
          go_simp
          refine hK.out _ _ ?hs20 (fun hS4 => ?_)
          case hs20 => exact (bel2 wr _ _).drew
          clear hK K
          try simp only [Act.put, List.setIfInBounds_toArray, List.set_cons_zero, List.set_cons_succ]
          refine wpAnyH_done (by kernel_rfl) ?_ _
          have HBu0 := (bel2 wr (bxE r s pa na ca pe ne ce) (bxE r' s' pb nb cb pf nf cf)).drew
          have QX := ((BX.new wr _ rfl #[.int .i64 r, .int .i64 s, .slice pa na ca, .slice pe ne ce] 28).alloc (bxE r' s' pb nb cb pf nf cf)).drew
          have QY := (BX.new (wr.alloc (bxE r s pa na ca pe ne ce)) (wr.heap.size + 1) (by simp) #[.int .i64 r', .int .i64 s', .slice pb nb cb, .slice pf nf cf] 28).drew
          have N2' := N2.out.below HBu0
          generalize ((wr.alloc (bxE r s pa na ca pe ne ce)).alloc (bxE r' s' pb nb cb pf nf cf)).drew = u5 at *
          replace N2 := hide N2'
          have HBu := hide HBu0
          have a0 := QX.cell 0 _ rfl
          have a1' := QX.cell 1 _ rfl
          have a2' := QX.cell 2 _ rfl
          have a3 := QX.cell 3 _ rfl
          have b0 := QY.cell 0 _ rfl
          have b1 := QY.cell 1 _ rfl
          have b2 := QY.cell 2 _ rfl
          have b3 := QY.cell 3 _ rfl
          clear N2' HBu0 QX QY x0 x1 x2 x3 y0 y1 y2 y3 hS0 hS1 hS2 hS3 hS4
          have HAP := hide (fun W (h : NS W pb nb c') => Ahead_any r s pa na ca pe ne ce r' s' pb nb cb pf nf cf c' W h _ rfl)
          have HAR := hide (fun W (h : NS W pb nb c') => AheadR_any r s pa na ca pe ne ce r' s' pb nb cb pf nf cf c' W h)
          generalize ahdB (r, s) c' = bb at HAP HAR
          go_wp2
          refine wp_region_held_drew (S := fun W => Below u5.heap.size u5 W) (by kernel_rfl) ((Below.refl _ u5).drew) (fun hS0 => ?_)
          refine takeInH 0 47 ?v21 rfl rfl (by kernel_rfl) (by kernel_rfl) (by kernel_rfl) (fun _ _ _ h => h) (by kernel_rfl) hS0 ?hy21 ?_
          case hy21 => (intro W hW; have e0 := bcell hW a0; have e1 := bcell hW a1'; have e2 := bcell hW a2'; have e3 := bcell hW a3; have e4 := bcell hW b0; have e5 := bcell hW b1; have e6 := bcell hW b2; have e7 := bcell hW b3; clear hW; go_simp; try rfl)
          simp only [Act.put, List.setIfInBounds_toArray, List.set_cons_zero, List.set_cons_succ]
          refine takeInH 1 48 ?v22 rfl rfl (by kernel_rfl) (by kernel_rfl) (by kernel_rfl) (fun _ _ _ h => h) (by kernel_rfl) hS0 ?hy22 ?_
          case hy22 => (intro W hW; have e0 := bcell hW a0; have e1 := bcell hW a1'; have e2 := bcell hW a2'; have e3 := bcell hW a3; have e4 := bcell hW b0; have e5 := bcell hW b1; have e6 := bcell hW b2; have e7 := bcell hW b3; clear hW; go_simp; try rfl)
          simp only [Act.put, List.setIfInBounds_toArray, List.set_cons_zero, List.set_cons_succ]
          refine takeInH 3 50 ?v23 rfl rfl (by kernel_rfl) (by kernel_rfl) (by kernel_rfl) (fun _ _ _ h => h) (by kernel_rfl) hS0 ?hy23 ?_
          case hy23 => (intro W hW; have e0 := bcell hW a0; have e1 := bcell hW a1'; have e2 := bcell hW a2'; have e3 := bcell hW a3; have e4 := bcell hW b0; have e5 := bcell hW b1; have e6 := bcell hW b2; have e7 := bcell hW b3; clear hW; go_simp; try rfl)
          simp only [Act.put, List.setIfInBounds_toArray, List.set_cons_zero, List.set_cons_succ]
          refine takeInH 4 51 ?v24 rfl rfl (by kernel_rfl) (by kernel_rfl) (by kernel_rfl) (fun _ _ _ h => h) (by kernel_rfl) hS0 ?hy24 ?_
          case hy24 => (intro W hW; have e0 := bcell hW a0; have e1 := bcell hW a1'; have e2 := bcell hW a2'; have e3 := bcell hW a3; have e4 := bcell hW b0; have e5 := bcell hW b1; have e6 := bcell hW b2; have e7 := bcell hW b3; clear hW; go_simp; try rfl)
          simp only [Act.put, List.setIfInBounds_toArray, List.set_cons_zero, List.set_cons_succ]
          refine wpAnyH_ready (rs := [2]) (by kernel_rfl) (by simp) ?_
          refine AllReadyH.cons rfl (fun K hK => ?_) AllReadyH.nil
          go_simp
          refine (HAP.out _ (N2.out.below hS0)).mono ?_
          rintro e w' ⟨rfl, hb⟩
          try go_wp2_with fail
          refine hK.out _ _ ?hs25 (fun hS1 => ?_)
          case hs25 => exact bel_next hS0 hb
          clear hK K
          try simp only [Act.put, List.setIfInBounds_toArray, List.set_cons_zero, List.set_cons_succ]
          refine wpAnyH_ready (rs := [5]) (by kernel_rfl) (by simp) ?_
          refine AllReadyH.cons rfl (fun K hK => ?_) AllReadyH.nil
          go_simp
          refine (HAR.out _ (N2.out.below hS1)).mono ?_
          rintro e w' ⟨rfl, hb⟩
          try go_wp2_with fail
          refine hK.out _ _ ?hs26 (fun hS2 => ?_)
          case hs26 => exact bel_next hS1 hb
          clear hK K
          try simp only [Act.put, List.setIfInBounds_toArray, List.set_cons_zero, List.set_cons_succ]
          refine takeInH 6 53 ?v27 rfl rfl (by kernel_rfl) (by kernel_rfl) (by kernel_rfl) (fun _ _ _ h => h) (by kernel_rfl) hS2 ?hy27 ?_
          case hy27 => (intro W hW; clear hW; go_simp; try rfl)
          simp only [Act.put, List.setIfInBounds_toArray, List.set_cons_zero, List.set_cons_succ]
          refine wpAnyH_done (by kernel_rfl) ?_ _
          have HBa := hide (bel_next HBu.out hS2)
          have HO := hide (fun W (h : EVS W (some ⟨b, off, none⟩) n es) => Order_evt (some ⟨b, off, none⟩) n cap es W h (by omega) (fun e he => by
            have q := HF.out e he
            exact ⟨by have := q.1; omega, by have := q.2; omega⟩))
          have HRR := hide (fun W (h : EVS W (some ⟨b, off, none⟩) n es) => OrderR_evt (some ⟨b, off, none⟩) n cap es W h (by omega))
          have HCL := hide (fun W (h : EVS W (some ⟨b, off, none⟩) n es) => Closed_any (some ⟨b, off, none⟩) n cap es W h (by omega))
          have HCR := hide (fun W (h : EVS W (some ⟨b, off, none⟩) n es) => ClosedR_any (some ⟨b, off, none⟩) n cap es W h (by omega) hCc)
          generalize closedB es = cl at HCL HCR
          go_wp2_with (first
            | (go_at_call 25; refine (HO.out _ (HV.out.below HBa.out)).mono ?_; rintro e w3 ⟨p3, c3, rfl, hev, hcp, hb⟩; have HE3 := hide hev; have HB3 := hide (bel_next HBa.out hb); clear hev hcp hb)
            | (go_at_call 26; refine (HRR.out _ (HV.out.below HB3.out)).mono ?_; rintro e w4 ⟨p4, c4, rfl, hev, hb⟩; have HE4 := hide hev; replace HE3 := hide (HE3.out.below hb); have HB4 := hide (bel_next HB3.out hb); clear hev hb)
            | (go_at_call 24; refine (All_same _ _ n _ _ _ _ HE3.out HE4.out).mono ?_; rintro e w5 ⟨rfl, hb⟩; have HB5 := hide (bel_next HB4.out hb); clear hb)
            | (go_at_call 27; refine (HCL.out _ (HV.out.below HB5.out)).mono ?_; rintro e w6 ⟨rfl, hb⟩; have HB6 := hide (bel_next HB5.out hb); clear hb)
            | (go_at_call 28; refine (HCR.out _ (HV.out.below HB6.out)).mono ?_; rintro e w7 ⟨rfl, hb⟩; have HB7 := hide (bel_next HB6.out hb); clear hb)
            | (go_at_call 9; refine (HAW.out _).mono ?_; rintro e w8 ⟨rfl, hb⟩; have HB8 := hide (bel_next HB7.out hb); clear hb))
          go_ret
          exact ⟨rfl, HB8.out⟩
        · go_simp
          try go_wp2_with fail
          refine hK.out _ _ ?hs28 (fun hS1 => ?_)
          case hs28 => exact bel_next hS0 (bel1 _ _)
          clear hK K
          try simp only [Act.put, List.setIfInBounds_toArray, List.set_cons_zero, List.set_cons_succ]
          refine wpAnyH_ready (rs := [16]) (by kernel_rfl) (by simp) ?_
          refine AllReadyH.cons rfl (fun K hK => ?_) AllReadyH.nil
          go_simp
          try go_wp2_with fail
          refine hK.out _ _ ?hs29 (fun hS2 => ?_)
          case hs29 => exact bel_next hS1 (bel1 _ _)
          clear hK K
          try simp only [Act.put, List.setIfInBounds_toArray, List.set_cons_zero, List.set_cons_succ]
          refine wpAnyH_ready (rs := [18]) (by kernel_rfl) (by simp) ?_
          refine AllReadyH.cons rfl (fun K hK => ?_) AllReadyH.nil
          go_simp
          refine hK.out _ _ ?hs30 (fun hS3 => ?_)
          case hs30 => exact (bel2 wr _ _).drew
          clear hK K
          try simp only [Act.put, List.setIfInBounds_toArray, List.set_cons_zero, List.set_cons_succ]
          refine wpAnyH_ready (rs := [19]) (by kernel_rfl) (by simp) ?_
          refine AllReadyH.cons rfl (fun K hK => ?_) AllReadyH.nil
          go_simp
          refine hK.out _ _ ?hs31 (fun hS4 => ?_)
          case hs31 => exact (bel2 wr _ _).drew
          clear hK K
          try simp only [Act.put, List.setIfInBounds_toArray, List.set_cons_zero, List.set_cons_succ]
          refine wpAnyH_done (by kernel_rfl) ?_ _
          have HBu0 := (bel2 wr (bxE r' s' pb nb cb pf nf cf) (bxE r s pa na ca pe ne ce)).drew
          have QY := ((BX.new wr _ rfl #[.int .i64 r', .int .i64 s', .slice pb nb cb, .slice pf nf cf] 28).alloc (bxE r s pa na ca pe ne ce)).drew
          have QX := (BX.new (wr.alloc (bxE r' s' pb nb cb pf nf cf)) (wr.heap.size + 1) (by simp) #[.int .i64 r, .int .i64 s, .slice pa na ca, .slice pe ne ce] 28).drew
          have N2' := N2.out.below HBu0
          generalize ((wr.alloc (bxE r' s' pb nb cb pf nf cf)).alloc (bxE r s pa na ca pe ne ce)).drew = u5 at *
          replace N2 := hide N2'
          have HBu := hide HBu0
          have a0 := QX.cell 0 _ rfl
          have a1' := QX.cell 1 _ rfl
          have a2' := QX.cell 2 _ rfl
          have a3 := QX.cell 3 _ rfl
          have b0 := QY.cell 0 _ rfl
          have b1 := QY.cell 1 _ rfl
          have b2 := QY.cell 2 _ rfl
          have b3 := QY.cell 3 _ rfl
          clear N2' HBu0 QX QY x0 x1 x2 x3 y0 y1 y2 y3 hS0 hS1 hS2 hS3 hS4
          have HAP := hide (fun W (h : NS W pb nb c') => Ahead_any r s pa na ca pe ne ce r' s' pb nb cb pf nf cf c' W h _ rfl)
          have HAR := hide (fun W (h : NS W pb nb c') => AheadR_any r s pa na ca pe ne ce r' s' pb nb cb pf nf cf c' W h)
          generalize ahdB (r, s) c' = bb at HAP HAR
          go_wp2
          refine wp_region_held_drew (S := fun W => Below u5.heap.size u5 W) (by kernel_rfl) ((Below.refl _ u5).drew) (fun hS0 => ?_)
          refine takeInH 0 47 ?v32 rfl rfl (by kernel_rfl) (by kernel_rfl) (by kernel_rfl) (fun _ _ _ h => h) (by kernel_rfl) hS0 ?hy32 ?_
          case hy32 => (intro W hW; have e0 := bcell hW a0; have e1 := bcell hW a1'; have e2 := bcell hW a2'; have e3 := bcell hW a3; have e4 := bcell hW b0; have e5 := bcell hW b1; have e6 := bcell hW b2; have e7 := bcell hW b3; clear hW; go_simp; try rfl)
          simp only [Act.put, List.setIfInBounds_toArray, List.set_cons_zero, List.set_cons_succ]
          refine takeInH 1 48 ?v33 rfl rfl (by kernel_rfl) (by kernel_rfl) (by kernel_rfl) (fun _ _ _ h => h) (by kernel_rfl) hS0 ?hy33 ?_
          case hy33 => (intro W hW; have e0 := bcell hW a0; have e1 := bcell hW a1'; have e2 := bcell hW a2'; have e3 := bcell hW a3; have e4 := bcell hW b0; have e5 := bcell hW b1; have e6 := bcell hW b2; have e7 := bcell hW b3; clear hW; go_simp; try rfl)
          simp only [Act.put, List.setIfInBounds_toArray, List.set_cons_zero, List.set_cons_succ]
          refine takeInH 3 50 ?v34 rfl rfl (by kernel_rfl) (by kernel_rfl) (by kernel_rfl) (fun _ _ _ h => h) (by kernel_rfl) hS0 ?hy34 ?_
          case hy34 => (intro W hW; have e0 := bcell hW a0; have e1 := bcell hW a1'; have e2 := bcell hW a2'; have e3 := bcell hW a3; have e4 := bcell hW b0; have e5 := bcell hW b1; have e6 := bcell hW b2; have e7 := bcell hW b3; clear hW; go_simp; try rfl)
          simp only [Act.put, List.setIfInBounds_toArray, List.set_cons_zero, List.set_cons_succ]
          refine takeInH 4 51 ?v35 rfl rfl (by kernel_rfl) (by kernel_rfl) (by kernel_rfl) (fun _ _ _ h => h) (by kernel_rfl) hS0 ?hy35 ?_
          case hy35 => (intro W hW; have e0 := bcell hW a0; have e1 := bcell hW a1'; have e2 := bcell hW a2'; have e3 := bcell hW a3; have e4 := bcell hW b0; have e5 := bcell hW b1; have e6 := bcell hW b2; have e7 := bcell hW b3; clear hW; go_simp; try rfl)
          simp only [Act.put, List.setIfInBounds_toArray, List.set_cons_zero, List.set_cons_succ]
          refine wpAnyH_ready (rs := [2]) (by kernel_rfl) (by simp) ?_
          refine AllReadyH.cons rfl (fun K hK => ?_) AllReadyH.nil
          go_simp
          refine (HAP.out _ (N2.out.below hS0)).mono ?_
          rintro e w' ⟨rfl, hb⟩
          try go_wp2_with fail
          refine hK.out _ _ ?hs36 (fun hS1 => ?_)
          case hs36 => exact bel_next hS0 hb
          clear hK K
          try simp only [Act.put, List.setIfInBounds_toArray, List.set_cons_zero, List.set_cons_succ]
          refine wpAnyH_ready (rs := [5]) (by kernel_rfl) (by simp) ?_
          refine AllReadyH.cons rfl (fun K hK => ?_) AllReadyH.nil
          go_simp
          refine (HAR.out _ (N2.out.below hS1)).mono ?_
          rintro e w' ⟨rfl, hb⟩
          try go_wp2_with fail
          refine hK.out _ _ ?hs37 (fun hS2 => ?_)
          case hs37 => exact bel_next hS1 hb
          clear hK K
          try simp only [Act.put, List.setIfInBounds_toArray, List.set_cons_zero, List.set_cons_succ]
          refine takeInH 6 53 ?v38 rfl rfl (by kernel_rfl) (by kernel_rfl) (by kernel_rfl) (fun _ _ _ h => h) (by kernel_rfl) hS2 ?hy38 ?_
          case hy38 => (intro W hW; clear hW; go_simp; try rfl)
          simp only [Act.put, List.setIfInBounds_toArray, List.set_cons_zero, List.set_cons_succ]
          refine wpAnyH_done (by kernel_rfl) ?_ _
          have HBa := hide (bel_next HBu.out hS2)
          have HO := hide (fun W (h : EVS W (some ⟨b, off, none⟩) n es) => Order_evt (some ⟨b, off, none⟩) n cap es W h (by omega) (fun e he => by
            have q := HF.out e he
            exact ⟨by have := q.1; omega, by have := q.2; omega⟩))
          have HRR := hide (fun W (h : EVS W (some ⟨b, off, none⟩) n es) => OrderR_evt (some ⟨b, off, none⟩) n cap es W h (by omega))
          have HCL := hide (fun W (h : EVS W (some ⟨b, off, none⟩) n es) => Closed_any (some ⟨b, off, none⟩) n cap es W h (by omega))
          have HCR := hide (fun W (h : EVS W (some ⟨b, off, none⟩) n es) => ClosedR_any (some ⟨b, off, none⟩) n cap es W h (by omega) hCc)
          generalize closedB es = cl at HCL HCR
          go_wp2_with (first
            | (go_at_call 25; refine (HO.out _ (HV.out.below HBa.out)).mono ?_; rintro e w3 ⟨p3, c3, rfl, hev, hcp, hb⟩; have HE3 := hide hev; have HB3 := hide (bel_next HBa.out hb); clear hev hcp hb)
            | (go_at_call 26; refine (HRR.out _ (HV.out.below HB3.out)).mono ?_; rintro e w4 ⟨p4, c4, rfl, hev, hb⟩; have HE4 := hide hev; replace HE3 := hide (HE3.out.below hb); have HB4 := hide (bel_next HB3.out hb); clear hev hb)
            | (go_at_call 24; refine (All_same _ _ n _ _ _ _ HE3.out HE4.out).mono ?_; rintro e w5 ⟨rfl, hb⟩; have HB5 := hide (bel_next HB4.out hb); clear hb)
            | (go_at_call 27; refine (HCL.out _ (HV.out.below HB5.out)).mono ?_; rintro e w6 ⟨rfl, hb⟩; have HB6 := hide (bel_next HB5.out hb); clear hb)
            | (go_at_call 28; refine (HCR.out _ (HV.out.below HB6.out)).mono ?_; rintro e w7 ⟨rfl, hb⟩; have HB7 := hide (bel_next HB6.out hb); clear hb)
            | (go_at_call 9; refine (HAW.out _).mono ?_; rintro e w8 ⟨rfl, hb⟩; have HB8 := hide (bel_next HB7.out hb); clear hb))
          go_ret
          exact ⟨rfl, HB8.out⟩

/-! ### The row's step -/
set_option maxRecDepth 100000 in
theorem lifted (os : Os) (started : os.Started) (H : Type) (enc : TypeId × Value → H) :
    ReturnsInHanded {} Try.checked os 5 .any (Rows.eventOrdersSpec.pre6 enc Try.prog Try.f5 Rows.eventOrdersRow.domain false) (Rows.eventOrdersSpec.post enc Try.prog Try.f5 false true false false) := by
  refine returnsInHanded_of_change_sized (C := Try.checked) own started (by kernel_rfl) Try.func5
    (ChangeSpec.witness6 (enc := enc) (C := Try.checked) false ⟨#[], #[.slice none 0 0, .int .u8 0, .int .u8 0], []⟩ 8 (by kernel_rfl) (by kernel_rfl) (by kernel_rfl) (by kernel_rfl)) ?_
  intro W base args ds gs before hval0 hW hcnd hz0 _
  have hval : ∀ (j : Nat) t v, Try.f5.params[j]? = some t → args[j]? = some v → Value.okWide Try.prog W .any base t v := hval0
  have hz : (DataW.weightsEach Try.prog (Try.f5.params.toList ++ Rows.eventOrdersSpec.plain.varTypes Try.prog) (ds ++ gs)).all (· ≤ reachBytes) = true := hz0
  have hW' := hW
  obtain ⟨p, q, hA0, hV, rfl, hfz, hnd⟩ := hW
  have hA : DataW.TrodAll enc Try.prog W 0 (fun _ => true) true Try.f5.params.toList args.toList ds p := hA0
  rw [Try.params5] at hA hval hz
  obtain ⟨v0, vs0, d0, ds0, p0, q0, hargs, rfl, rfl, h0, r0⟩ := trodAll_cons hA
  obtain ⟨v1, vs1, d1, ds1, p1, q1, rfl, rfl, rfl, h1, r1⟩ := trodAll_cons r0
  obtain ⟨v2, vs2, d2, ds2, p2, q2, rfl, rfl, rfl, h2, r2⟩ := trodAll_cons r1
  obtain ⟨rfl, rfl, rfl⟩ := trodAll_nil r2
  obtain rfl : args = #[v0, v1, v2] := by cases args; simp_all
  obtain ⟨rfl, rfl⟩ := trodVars_none hV
  have k0 := h0
  have lt0 : ∀ x ∈ p0, x.block < W.heap.size := by obtain ⟨m, hm⟩ := k0; exact DataW.trod_lt m _ _ _ hm
  have w0 : InEs W v0 := in_events (hval 0 30 v0 rfl rfl) h0 (fun n hn => by have := List.all_eq_true.1 hz n (DataW.weights_mem_each (j := 0) (t := 30) rfl rfl n hn); simpa using this)
  obtain ⟨a1, rfl, rfl, rfl, w1⟩ := open_int Try.underlying5 (hval 1 5 v1 rfl rfl) h1
  obtain ⟨a2, rfl, rfl, rfl, w2⟩ := open_int Try.underlying5 (hval 2 5 v2 rfl rfl) h2
  clear hA0 hval0 hz0
  refine (walk v0 a1 a2 W w0 w1 w2).mono fun e W' ⟨he, bel⟩ => ?_
  subst he
  exact ⟨_, rfl, _, _, _, [], _, [], hW', trodAll_mk1 (shut_bool Try.underlying4 _), (trodAll_cons_mk (Below.trod laidOut (by kernel_rfl) (of_decide_eq_true (by kernel_rfl)) k0 bel lt0) (trodAll_cons_mk (shut_int Try.underlying5 w1) (trodAll_cons_mk (shut_int Try.underlying5 w2) trodAll_mk0))), rfl, bel.frame _, fun h => by cases h⟩

theorem over : Rows.eventOrdersRow.holds Try.pinned (OpenSpec.ofChange Rows.eventOrdersSpec) :=
  OpenClaim.holds_of_wide 5 Try.f5 rfl rfl rfl rfl rfl rfl rfl ⟨rfl, rfl, rfl, rfl, rfl⟩ rfl rfl rfl rfl rfl (by kernel_rfl) Try.func5 (by kernel_rfl)
    (of_decide_eq_true (by kernel_rfl)) (by unfold Func.isWrapper; first | (rw [if_pos (by decide +kernel)]; kernel_rfl) | (rw [if_neg (by decide +kernel)]; exact ⟨rfl, rfl⟩))
    (fun os started H enc _ => lifted os started H enc)
end Go.Proofs.Ytooggheoaglbeaa.eventOrders
namespace Go.Proofs.Ytooggheoaglbeaa
theorem eventOrders_holds : Rows.EventOrdersSaid := eventOrders.over
end Go.Proofs.Ytooggheoaglbeaa

