/- Which rules there may be, and which are alike, is told as the document says. -/
import Derived.Test.YtomppblgalepjaaGreatDoorRows
import Derived.Test.YtomppblgalepjaaGreatDoorCards
import Derived.Test.YtomppblgalepjaaGreatDoorTie
import Derived.SevenTiedAt
import Derived.LaidMore
import Derived.LaidLaws
import Derived.Handed
import Derived.WalkKit
import Derived.ProofKit
import Derived.OpenShut
import Derived.ShutString
import Derived.ChangeOld
import Derived.Below
import Derived.SizedLaws
import Derived.Test.YtomppblgalepjaaGreatDoorJ48

namespace Go.Proofs.YtomppblgalepjaaGreatDoor.sortsChecks
open Go.ChangeShapes Go.WideShapes Go.ChangeAt Go.RowKit
set_option linter.unusedVariables false

theorem own : ownKnob Tryz.prog.godebug = none := by kernel_rfl
theorem laidOut : laidOutB Tryz.prog = true := by kernel_rfl

set_option maxRecDepth 8000 in
set_option maxHeartbeats 16000000 in
theorem walk (v0 : Value) (v1 : Value) (w : World) (w0 : InR16 w v0) (w1 : InR16 w v1) (hlv : LV w) :
  Calls Tryz.prog 4 #[v0, v1] w fun e w' => e = .returned (.bool true) ∧ Below w.heap.size w w' := by
 have HLV := hide hlv
 clear hlv
 obtain ⟨a1, a2, a3, a4, a5, n1, n2, n3, n4, n5, c1, c2, c3, c4, c5, ⟨S1, S2, S3, K4, O5⟩, rfl, hM⟩ := w0
 obtain ⟨b1, b2, b3, b4, b5, m1, m2, m3, m4, m5, d1, d2, d3, d4, d5, ⟨T1, T2, T3, L4, P5⟩, rfl, hN⟩ := w1
 have HB := hide (bel2 w (.cells #[.slice a1 n1 c1, .slice a2 n2 c2, .slice a3 n3 c3, .slice a4 n4 c4, .slice a5 n5 c5] 29) (.cells #[.slice b1 m1 d1, .slice b2 m2 d2, .slice b3 m3 d3, .slice b4 m4 d4, .slice b5 m5 d5] 29))
 have HP : Hid (BX ((w.alloc (.cells #[.slice a1 n1 c1, .slice a2 n2 c2, .slice a3 n3 c3, .slice a4 n4 c4, .slice a5 n5 c5] 29)).alloc (.cells #[.slice b1 m1 d1, .slice b2 m2 d2, .slice b3 m3 d3, .slice b4 m4 d4, .slice b5 m5 d5] 29)) w.heap.size #[.slice a1 n1 c1, .slice a2 n2 c2, .slice a3 n3 c3, .slice a4 n4 c4, .slice a5 n5 c5] 29) := (BX.new w _ rfl _ _).alloc _
 have HQ : Hid (BX ((w.alloc (.cells #[.slice a1 n1 c1, .slice a2 n2 c2, .slice a3 n3 c3, .slice a4 n4 c4, .slice a5 n5 c5] 29)).alloc (.cells #[.slice b1 m1 d1, .slice b2 m2 d2, .slice b3 m3 d3, .slice b4 m4 d4, .slice b5 m5 d5] 29)) (w.heap.size + 1) #[.slice b1 m1 d1, .slice b2 m2 d2, .slice b3 m3 d3, .slice b4 m4 d4, .slice b5 m5 d5] 29) := BX.new (w.alloc (.cells #[.slice a1 n1 c1, .slice a2 n2 c2, .slice a3 n3 c3, .slice a4 n4 c4, .slice a5 n5 c5] 29)) _ (by simp) _ _
 have HLA := hide (fun W (hW : Below w.heap.size w W) => Light16 W (hM.below hW))
 have HLB := hide (fun W (hW : Below w.heap.size w W) => Light16 W (hN.below hW))
 have HAW := hide (fun W (hW : Below w.heap.size w W) => awake16 W (HLV.out.below hW))
 rcases hla : lgtR ((S1, S2, S3, K4, O5) : Ru) with _ | _
 ·have HEA := hide hla
  clear hla hM hN HLB
  go_enter Tryz.func4, Tryz.ntmps4
  go_upto_region 1 with fail
  generalize ((w.alloc (.cells #[.slice a1 n1 c1, .slice a2 n2 c2, .slice a3 n3 c3, .slice a4 n4 c4, .slice a5 n5 c5] 29)).alloc (.cells #[.slice b1 m1 d1, .slice b2 m2 d2, .slice b3 m3 d3, .slice b4 m4 d4, .slice b5 m5 d5] 29)) = u at *
  have p0 := HP.out.cell 0 _ rfl
  have q0 := HQ.out.cell 0 _ rfl
  have p1 := HP.out.cell 1 _ rfl
  have q1 := HQ.out.cell 1 _ rfl
  have p2 := HP.out.cell 2 _ rfl
  have q2 := HQ.out.cell 2 _ rfl
  have p3 := HP.out.cell 3 _ rfl
  have q3 := HQ.out.cell 3 _ rfl
  have p4 := HP.out.cell 4 _ rfl
  have q4 := HQ.out.cell 4 _ rfl
  clear HP HQ
  go_wp2_with (first | (go_at_call 12; have hc := HLA.out; clear HLA; refine (hc _ HB.out).mono ?_; rintro e wl ⟨rfl, hb⟩; rw [HEA.out]; replace HB := hide (bel_next HB.out hb); replace p0 := bcell hb p0; replace p1 := bcell hb p1; replace p2 := bcell hb p2; replace p3 := bcell hb p3; replace p4 := bcell hb p4; replace q0 := bcell hb q0; replace q1 := bcell hb q1; replace q2 := bcell hb q2; replace q3 := bcell hb q3; replace q4 := bcell hb q4; clear hb hc) | (go_at_call 6; refine (HAW.out _ HB.out).mono ?_; rintro e wz ⟨rfl, hb⟩; replace HB := hide (bel_next HB.out hb); clear hb))
  go_ret
  exact ⟨rfl, HB.out⟩
 have HEA := hide hla
 rcases hlb : lgtR ((T1, T2, T3, L4, P5) : Ru) with _ | _
 ·have HEB := hide hlb
  clear hlb hla hM hN
  go_enter Tryz.func4, Tryz.ntmps4
  go_upto_region 1 with fail
  generalize ((w.alloc (.cells #[.slice a1 n1 c1, .slice a2 n2 c2, .slice a3 n3 c3, .slice a4 n4 c4, .slice a5 n5 c5] 29)).alloc (.cells #[.slice b1 m1 d1, .slice b2 m2 d2, .slice b3 m3 d3, .slice b4 m4 d4, .slice b5 m5 d5] 29)) = u at *
  have p0 := HP.out.cell 0 _ rfl
  have q0 := HQ.out.cell 0 _ rfl
  have p1 := HP.out.cell 1 _ rfl
  have q1 := HQ.out.cell 1 _ rfl
  have p2 := HP.out.cell 2 _ rfl
  have q2 := HQ.out.cell 2 _ rfl
  have p3 := HP.out.cell 3 _ rfl
  have q3 := HQ.out.cell 3 _ rfl
  have p4 := HP.out.cell 4 _ rfl
  have q4 := HQ.out.cell 4 _ rfl
  clear HP HQ
  go_wp2_with (first | (go_at_call 12; have hc := HLA.out; clear HLA; refine (hc _ HB.out).mono ?_; rintro e wl ⟨rfl, hb⟩; rw [HEA.out]; replace HB := hide (bel_next HB.out hb); replace p0 := bcell hb p0; replace p1 := bcell hb p1; replace p2 := bcell hb p2; replace p3 := bcell hb p3; replace p4 := bcell hb p4; replace q0 := bcell hb q0; replace q1 := bcell hb q1; replace q2 := bcell hb q2; replace q3 := bcell hb q3; replace q4 := bcell hb q4; clear hb hc) | (go_at_call 12; have hc := HLB.out; clear HLB; refine (hc _ HB.out).mono ?_; rintro e wl2 ⟨rfl, hb⟩; rw [HEB.out]; replace HB := hide (bel_next HB.out hb); replace p0 := bcell hb p0; replace p1 := bcell hb p1; replace p2 := bcell hb p2; replace p3 := bcell hb p3; replace p4 := bcell hb p4; replace q0 := bcell hb q0; replace q1 := bcell hb q1; replace q2 := bcell hb q2; replace q3 := bcell hb q3; replace q4 := bcell hb q4; clear hb hc) | (go_at_call 6; refine (HAW.out _ HB.out).mono ?_; rintro e wz ⟨rfl, hb⟩; replace HB := hide (bel_next HB.out hb); clear hb))
  go_ret
  exact ⟨rfl, HB.out⟩
 have HEB := hide hlb
 have qa := lgt_use hla
 have qb := lgt_use hlb
 obtain ⟨x1, x2, x3, x4, x5, x6, x7⟩ := qa
 obtain ⟨y1, y2, y3, y4, y5, y6, y7⟩ := qb
 simp only at x1 x2 x3 x4 x5 y1 y2 y3 y4 y5
 rw [hM.1.1.1] at x1
 rw [hM.2.1.1.1] at x2
 rw [hM.2.2.1.1.1] at x3
 rw [hM.2.2.2.1.1.1] at x4
 rw [hM.2.2.2.2.1.len] at x5
 rw [hN.1.1.1] at y1
 rw [hN.2.1.1.1] at y2
 rw [hN.2.2.1.1.1] at y3
 rw [hN.2.2.2.1.1.1] at y4
 rw [hN.2.2.2.2.1.len] at y5
 obtain ⟨z, hz⟩ := zOf (((S1, S2, S3, K4, O5) : Ru) = ((T1, T2, T3, L4, P5) : Ru))
 have HCK := hide (fun W (hW : Below w.heap.size w W) => CheckP16 ((S1, S2, S3, K4, O5) : Ru) a1 a2 a3 a4 a5 n1 n2 n3 n4 n5 c1 c2 c3 c4 c5 W (hM.below hW) (fun x hx => Nat.le_trans (x6 x hx) (by decide)) (by omega))
 have HMY := hide (fun W (hW : Below w.heap.size w W) => May16 W (hM.below hW) (by omega) (fun o ho => Nat.le_trans (x7 o ho) (by decide)) (fun x hx => Nat.le_trans (x6 x hx) (by decide)))
 have HZP1 := hide (fun W (hW : Below w.heap.size w W) => SameP16 z hz W (hM.below hW) (hN.below hW) (by omega) (by omega) (fun o ho => Nat.le_trans (x7 o ho) (by decide)) (fun o ho => Nat.le_trans (y7 o ho) (by decide)))
 have HZR1 := hide (fun W (hW : Below w.heap.size w W) => Same16 z hz W (hM.below hW) (hN.below hW) (by omega) (by omega) (fun o ho => Nat.le_trans (x7 o ho) (by decide)) (fun o ho => Nat.le_trans (y7 o ho) (by decide)))
 have HZQ1 := hide (fun W (hW : Below w.heap.size w W) => SameP16 true (by simp) W (hM.below hW) (hM.below hW) (by omega) (by omega) (fun o ho => Nat.le_trans (x7 o ho) (by decide)) (fun o ho => Nat.le_trans (x7 o ho) (by decide)))
 clear hla hlb hM hN x1 x2 x3 x4 x5 x6 x7 y1 y2 y3 y4 y5 y6 y7 hz
 rcases hmb : mayR ((S1, S2, S3, K4, O5) : Ru) with _ | _
 ·have HMB := hide hmb
  have HEC : Hid (ec16 (mayR ((S1, S2, S3, K4, O5) : Ru)) = 1) := by unfold Hid; rw [hmb]; rfl
  clear hmb
  go_enter Tryz.func4, Tryz.ntmps4
  go_upto_region 1 with fail
  generalize ((w.alloc (.cells #[.slice a1 n1 c1, .slice a2 n2 c2, .slice a3 n3 c3, .slice a4 n4 c4, .slice a5 n5 c5] 29)).alloc (.cells #[.slice b1 m1 d1, .slice b2 m2 d2, .slice b3 m3 d3, .slice b4 m4 d4, .slice b5 m5 d5] 29)) = u at *
  have p0 := HP.out.cell 0 _ rfl
  have q0 := HQ.out.cell 0 _ rfl
  have p1 := HP.out.cell 1 _ rfl
  have q1 := HQ.out.cell 1 _ rfl
  have p2 := HP.out.cell 2 _ rfl
  have q2 := HQ.out.cell 2 _ rfl
  have p3 := HP.out.cell 3 _ rfl
  have q3 := HQ.out.cell 3 _ rfl
  have p4 := HP.out.cell 4 _ rfl
  have q4 := HQ.out.cell 4 _ rfl
  clear HP HQ
  go_upto_region 3 with (first | (go_at_call 12; have hc := HLA.out; clear HLA; refine (hc _ HB.out).mono ?_; rintro e wl ⟨rfl, hb⟩; rw [HEA.out]; replace HB := hide (bel_next HB.out hb); replace p0 := bcell hb p0; replace p1 := bcell hb p1; replace p2 := bcell hb p2; replace p3 := bcell hb p3; replace p4 := bcell hb p4; replace q0 := bcell hb q0; replace q1 := bcell hb q1; replace q2 := bcell hb q2; replace q3 := bcell hb q3; replace q4 := bcell hb q4; clear hb hc) | (go_at_call 12; have hc := HLB.out; clear HLB; refine (hc _ HB.out).mono ?_; rintro e wl2 ⟨rfl, hb⟩; rw [HEB.out]; replace HB := hide (bel_next HB.out hb); replace p0 := bcell hb p0; replace p1 := bcell hb p1; replace p2 := bcell hb p2; replace p3 := bcell hb p3; replace p4 := bcell hb p4; replace q0 := bcell hb q0; replace q1 := bcell hb q1; replace q2 := bcell hb q2; replace q3 := bcell hb q3; replace q4 := bcell hb q4; clear hb hc))
  generalize wl2 = u3 at *
  refine wp_region_held_drew (S := fun W => Below u3.heap.size u3 W) (by kernel_rfl) ((Below.refl _ u3).drew) (fun hS0 => ?_)
  refine tkI 0 14 ?v1 rfl rfl hS0 ?hy1 ?_
  case hy1 => (intro W hW; have e0 := bcell hW p0; have e1 := bcell hW p1; have e2 := bcell hW p2; have e3 := bcell hW p3; have e4 := bcell hW p4; have e5 := bcell hW q0; have e6 := bcell hW q1; have e7 := bcell hW q2; have e8 := bcell hW q3; have e9 := bcell hW q4; clear hW; go_simp; try rfl)
  simp only [ly]
  refine tkI 3 17 ?v2 rfl rfl hS0 ?hy2 ?_
  case hy2 => (intro W hW; have e0 := bcell hW p0; have e1 := bcell hW p1; have e2 := bcell hW p2; have e3 := bcell hW p3; have e4 := bcell hW p4; have e5 := bcell hW q0; have e6 := bcell hW q1; have e7 := bcell hW q2; have e8 := bcell hW q3; have e9 := bcell hW q4; clear hW; go_simp; try rfl)
  simp only [ly]
  refine wpAnyH_ready (rs := [1]) (by kernel_rfl) (by simp) ?_
  refine AllReadyH.cons rfl (fun K hK => ?_) AllReadyH.nil
  go_simp
  go_at_call 10
  refine (HCK.out _ (bel_next HB.out hS0)).mono ?_
  rintro e wy ⟨rfl, hb⟩
  rw [HEC.out]
  refine hK.out _ _ ?hs3 (fun hS1 => ?_)
  case hs3 => exact bel_next hS0 hb
  clear hK K hb
  try simp only [ly]
  refine tkJ 2 16 hS1 ?_; simp only [ly]
  refine wpAnyH_ready (rs := [4]) (by kernel_rfl) (by simp) ?_
  refine AllReadyH.cons rfl (fun K hK => ?_) AllReadyH.nil
  go_simp
  go_at_call 11
  refine (HMY.out _ (bel_next HB.out hS1)).mono ?_
  rintro e wy ⟨rfl, hb⟩
  rw [HMB.out]
  refine hK.out _ _ ?hs5 (fun hS2 => ?_)
  case hs5 => exact bel_next hS1 hb
  clear hK K hb
  try simp only [ly]
  refine tkJ 5 19 hS2 ?_; simp only [ly]
  refine tkJ 6 20 hS2 ?_; simp only [ly]
  refine tkI 7 21 ?v8 rfl rfl hS2 ?hy8 ?_
  case hy8 => (intro W hW; have e0 := bcell hW p0; have e1 := bcell hW p1; have e2 := bcell hW p2; have e3 := bcell hW p3; have e4 := bcell hW p4; have e5 := bcell hW q0; have e6 := bcell hW q1; have e7 := bcell hW q2; have e8 := bcell hW q3; have e9 := bcell hW q4; clear hW; go_simp; try rfl)
  simp only [ly]
  refine tkI 10 24 ?v9 rfl rfl hS2 ?hy9 ?_
  case hy9 => (intro W hW; have e0 := bcell hW p0; have e1 := bcell hW p1; have e2 := bcell hW p2; have e3 := bcell hW p3; have e4 := bcell hW p4; have e5 := bcell hW q0; have e6 := bcell hW q1; have e7 := bcell hW q2; have e8 := bcell hW q3; have e9 := bcell hW q4; clear hW; go_simp; try rfl)
  simp only [ly]
  refine wpAnyH_ready (rs := [8]) (by kernel_rfl) (by simp) ?_
  refine AllReadyH.cons rfl (fun K hK => ?_) AllReadyH.nil
  go_simp
  go_at_call 10
  refine (HCK.out _ (bel_next HB.out hS2)).mono ?_
  rintro e wy ⟨rfl, hb⟩
  rw [HEC.out]
  refine hK.out _ _ ?hs10 (fun hS3 => ?_)
  case hs10 => exact bel_next hS2 hb
  clear hK K hb
  try simp only [ly]
  refine tkJ 9 23 hS3 ?_; simp only [ly]
  refine wpAnyH_ready (rs := [11]) (by kernel_rfl) (by simp) ?_
  refine AllReadyH.cons rfl (fun K hK => ?_) AllReadyH.nil
  go_simp
  go_at_call 11
  refine (HMY.out _ (bel_next HB.out hS3)).mono ?_
  rintro e wy ⟨rfl, hb⟩
  rw [HMB.out]
  refine hK.out _ _ ?hs12 (fun hS4 => ?_)
  case hs12 => exact bel_next hS3 hb
  clear hK K hb
  try simp only [ly]
  refine tkJ 12 26 hS4 ?_; simp only [ly]
  refine tkJ 13 27 hS4 ?_; simp only [ly]
  refine tkJ 14 28 hS4 ?_; simp only [ly]
  refine tkJ 15 29 hS4 ?_; simp only [ly]
  refine tkI 16 30 ?v17 rfl rfl hS4 ?hy17 ?_
  case hy17 => (intro W hW; have e0 := bcell hW p0; have e1 := bcell hW p1; have e2 := bcell hW p2; have e3 := bcell hW p3; have e4 := bcell hW p4; have e5 := bcell hW q0; have e6 := bcell hW q1; have e7 := bcell hW q2; have e8 := bcell hW q3; have e9 := bcell hW q4; clear hW; go_simp; try rfl)
  simp only [ly]
  refine tkI 17 31 ?v18 rfl rfl hS4 ?hy18 ?_
  case hy18 => (intro W hW; have e0 := bcell hW p0; have e1 := bcell hW p1; have e2 := bcell hW p2; have e3 := bcell hW p3; have e4 := bcell hW p4; have e5 := bcell hW q0; have e6 := bcell hW q1; have e7 := bcell hW q2; have e8 := bcell hW q3; have e9 := bcell hW q4; clear hW; go_simp; try rfl)
  simp only [ly]
  refine tkI 19 33 ?v19 rfl rfl hS4 ?hy19 ?_
  case hy19 => (intro W hW; have e0 := bcell hW p0; have e1 := bcell hW p1; have e2 := bcell hW p2; have e3 := bcell hW p3; have e4 := bcell hW p4; have e5 := bcell hW q0; have e6 := bcell hW q1; have e7 := bcell hW q2; have e8 := bcell hW q3; have e9 := bcell hW q4; clear hW; go_simp; try rfl)
  simp only [ly]
  refine tkI 20 34 ?v20 rfl rfl hS4 ?hy20 ?_
  case hy20 => (intro W hW; have e0 := bcell hW p0; have e1 := bcell hW p1; have e2 := bcell hW p2; have e3 := bcell hW p3; have e4 := bcell hW p4; have e5 := bcell hW q0; have e6 := bcell hW q1; have e7 := bcell hW q2; have e8 := bcell hW q3; have e9 := bcell hW q4; clear hW; go_simp; try rfl)
  simp only [ly]
  refine wpAnyH_ready (rs := [18]) (by kernel_rfl) (by simp) ?_
  refine AllReadyH.cons rfl (fun K hK => ?_) AllReadyH.nil
  go_simp
  go_at_call 13
  refine (HZP1.out _ (bel_next HB.out hS4)).mono ?_
  rintro e wy ⟨rfl, hb⟩
  refine hK.out _ _ ?hs21 (fun hS5 => ?_)
  case hs21 => exact bel_next hS4 hb
  clear hK K hb
  try simp only [ly]
  refine wpAnyH_ready (rs := [21]) (by kernel_rfl) (by simp) ?_
  refine AllReadyH.cons rfl (fun K hK => ?_) AllReadyH.nil
  go_simp
  go_at_call 9
  refine (HZR1.out _ (bel_next HB.out hS5)).mono ?_
  rintro e wy ⟨rfl, hb⟩
  refine hK.out _ _ ?hs22 (fun hS6 => ?_)
  case hs22 => exact bel_next hS5 hb
  clear hK K hb
  try simp only [ly]
  refine tkJ 22 36 hS6 ?_; simp only [ly]
  refine tkJ 23 37 hS6 ?_; simp only [ly]
  refine tkJ 24 38 hS6 ?_; simp only [ly]
  refine tkI 25 39 ?v26 rfl rfl hS6 ?hy26 ?_
  case hy26 => (intro W hW; have e0 := bcell hW p0; have e1 := bcell hW p1; have e2 := bcell hW p2; have e3 := bcell hW p3; have e4 := bcell hW p4; have e5 := bcell hW q0; have e6 := bcell hW q1; have e7 := bcell hW q2; have e8 := bcell hW q3; have e9 := bcell hW q4; clear hW; go_simp; try rfl)
  simp only [ly]
  refine tkI 26 40 ?v27 rfl rfl hS6 ?hy27 ?_
  case hy27 => (intro W hW; have e0 := bcell hW p0; have e1 := bcell hW p1; have e2 := bcell hW p2; have e3 := bcell hW p3; have e4 := bcell hW p4; have e5 := bcell hW q0; have e6 := bcell hW q1; have e7 := bcell hW q2; have e8 := bcell hW q3; have e9 := bcell hW q4; clear hW; go_simp; try rfl)
  simp only [ly]
  refine wpAnyH_ready (rs := [27]) (by kernel_rfl) (by simp) ?_
  refine AllReadyH.cons rfl (fun K hK => ?_) AllReadyH.nil
  go_simp
  go_at_call 13
  refine (HZQ1.out _ (bel_next HB.out hS6)).mono ?_
  rintro e wy ⟨rfl, hb⟩
  refine hK.out _ _ ?hs28 (fun hS7 => ?_)
  case hs28 => exact bel_next hS6 hb
  clear hK K hb
  try simp only [ly]
  refine tkJ 28 42 hS7 ?_; simp only [ly]
  refine tkJ 29 43 hS7 ?_; simp only [ly]
  refine wpAnyH_ready (rs := [30]) (by kernel_rfl) (by simp) ?_
  refine AllReadyH.cons rfl (fun K hK => ?_) AllReadyH.nil
  go_simp
  go_at_call 6
  refine (HAW.out _ (bel_next HB.out hS7)).mono ?_
  rintro e wy ⟨rfl, hb⟩
  refine hK.out _ _ ?hs31 (fun hS8 => ?_)
  case hs31 => exact bel_next hS7 hb
  clear hK K hb
  try simp only [ly]
  refine tkJ 31 45 hS8 ?_; simp only [ly]
  refine tkJ 32 4 hS8 ?_; simp only [ly]
  refine wpAnyH_done (by kernel_rfl) ?_ _
  have HE := hide hS8
  go_wp2
  go_ret
  exact ⟨rfl, bel_next HB.out HE.out⟩
 have HMB := hide hmb
 have HEC : Hid (ec16 (mayR ((S1, S2, S3, K4, O5) : Ru)) = 0) := by unfold Hid; rw [hmb]; rfl
 clear hmb
 go_enter Tryz.func4, Tryz.ntmps4
 go_upto_region 1 with fail
 generalize ((w.alloc (.cells #[.slice a1 n1 c1, .slice a2 n2 c2, .slice a3 n3 c3, .slice a4 n4 c4, .slice a5 n5 c5] 29)).alloc (.cells #[.slice b1 m1 d1, .slice b2 m2 d2, .slice b3 m3 d3, .slice b4 m4 d4, .slice b5 m5 d5] 29)) = u at *
 have p0 := HP.out.cell 0 _ rfl
 have q0 := HQ.out.cell 0 _ rfl
 have p1 := HP.out.cell 1 _ rfl
 have q1 := HQ.out.cell 1 _ rfl
 have p2 := HP.out.cell 2 _ rfl
 have q2 := HQ.out.cell 2 _ rfl
 have p3 := HP.out.cell 3 _ rfl
 have q3 := HQ.out.cell 3 _ rfl
 have p4 := HP.out.cell 4 _ rfl
 have q4 := HQ.out.cell 4 _ rfl
 clear HP HQ
 go_upto_region 3 with (first | (go_at_call 12; have hc := HLA.out; clear HLA; refine (hc _ HB.out).mono ?_; rintro e wl ⟨rfl, hb⟩; rw [HEA.out]; replace HB := hide (bel_next HB.out hb); replace p0 := bcell hb p0; replace p1 := bcell hb p1; replace p2 := bcell hb p2; replace p3 := bcell hb p3; replace p4 := bcell hb p4; replace q0 := bcell hb q0; replace q1 := bcell hb q1; replace q2 := bcell hb q2; replace q3 := bcell hb q3; replace q4 := bcell hb q4; clear hb hc) | (go_at_call 12; have hc := HLB.out; clear HLB; refine (hc _ HB.out).mono ?_; rintro e wl2 ⟨rfl, hb⟩; rw [HEB.out]; replace HB := hide (bel_next HB.out hb); replace p0 := bcell hb p0; replace p1 := bcell hb p1; replace p2 := bcell hb p2; replace p3 := bcell hb p3; replace p4 := bcell hb p4; replace q0 := bcell hb q0; replace q1 := bcell hb q1; replace q2 := bcell hb q2; replace q3 := bcell hb q3; replace q4 := bcell hb q4; clear hb hc))
 generalize wl2 = u3 at *
 refine wp_region_held_drew (S := fun W => Below u3.heap.size u3 W) (by kernel_rfl) ((Below.refl _ u3).drew) (fun hS0 => ?_)
 refine tkI 0 14 ?v34 rfl rfl hS0 ?hy34 ?_
 case hy34 => (intro W hW; have e0 := bcell hW p0; have e1 := bcell hW p1; have e2 := bcell hW p2; have e3 := bcell hW p3; have e4 := bcell hW p4; have e5 := bcell hW q0; have e6 := bcell hW q1; have e7 := bcell hW q2; have e8 := bcell hW q3; have e9 := bcell hW q4; clear hW; go_simp; try rfl)
 simp only [ly]
 refine tkI 3 17 ?v35 rfl rfl hS0 ?hy35 ?_
 case hy35 => (intro W hW; have e0 := bcell hW p0; have e1 := bcell hW p1; have e2 := bcell hW p2; have e3 := bcell hW p3; have e4 := bcell hW p4; have e5 := bcell hW q0; have e6 := bcell hW q1; have e7 := bcell hW q2; have e8 := bcell hW q3; have e9 := bcell hW q4; clear hW; go_simp; try rfl)
 simp only [ly]
 refine wpAnyH_ready (rs := [1]) (by kernel_rfl) (by simp) ?_
 refine AllReadyH.cons rfl (fun K hK => ?_) AllReadyH.nil
 go_simp
 go_at_call 10
 refine (HCK.out _ (bel_next HB.out hS0)).mono ?_
 rintro e wy ⟨rfl, hb⟩
 rw [HEC.out]
 refine hK.out _ _ ?hs36 (fun hS1 => ?_)
 case hs36 => exact bel_next hS0 hb
 clear hK K hb
 try simp only [ly]
 refine tkJ 2 16 hS1 ?_; simp only [ly]
 refine wpAnyH_ready (rs := [4]) (by kernel_rfl) (by simp) ?_
 refine AllReadyH.cons rfl (fun K hK => ?_) AllReadyH.nil
 go_simp
 go_at_call 11
 refine (HMY.out _ (bel_next HB.out hS1)).mono ?_
 rintro e wy ⟨rfl, hb⟩
 rw [HMB.out]
 refine hK.out _ _ ?hs38 (fun hS2 => ?_)
 case hs38 => exact bel_next hS1 hb
 clear hK K hb
 try simp only [ly]
 refine tkJ 5 19 hS2 ?_; simp only [ly]
 refine tkJ 6 20 hS2 ?_; simp only [ly]
 refine tkI 7 21 ?v41 rfl rfl hS2 ?hy41 ?_
 case hy41 => (intro W hW; have e0 := bcell hW p0; have e1 := bcell hW p1; have e2 := bcell hW p2; have e3 := bcell hW p3; have e4 := bcell hW p4; have e5 := bcell hW q0; have e6 := bcell hW q1; have e7 := bcell hW q2; have e8 := bcell hW q3; have e9 := bcell hW q4; clear hW; go_simp; try rfl)
 simp only [ly]
 refine tkI 10 24 ?v42 rfl rfl hS2 ?hy42 ?_
 case hy42 => (intro W hW; have e0 := bcell hW p0; have e1 := bcell hW p1; have e2 := bcell hW p2; have e3 := bcell hW p3; have e4 := bcell hW p4; have e5 := bcell hW q0; have e6 := bcell hW q1; have e7 := bcell hW q2; have e8 := bcell hW q3; have e9 := bcell hW q4; clear hW; go_simp; try rfl)
 simp only [ly]
 refine wpAnyH_ready (rs := [8]) (by kernel_rfl) (by simp) ?_
 refine AllReadyH.cons rfl (fun K hK => ?_) AllReadyH.nil
 go_simp
 go_at_call 10
 refine (HCK.out _ (bel_next HB.out hS2)).mono ?_
 rintro e wy ⟨rfl, hb⟩
 rw [HEC.out]
 refine hK.out _ _ ?hs43 (fun hS3 => ?_)
 case hs43 => exact bel_next hS2 hb
 clear hK K hb
 try simp only [ly]
 refine tkJ 9 23 hS3 ?_; simp only [ly]
 refine wpAnyH_ready (rs := [11]) (by kernel_rfl) (by simp) ?_
 refine AllReadyH.cons rfl (fun K hK => ?_) AllReadyH.nil
 go_simp
 go_at_call 11
 refine (HMY.out _ (bel_next HB.out hS3)).mono ?_
 rintro e wy ⟨rfl, hb⟩
 rw [HMB.out]
 refine hK.out _ _ ?hs45 (fun hS4 => ?_)
 case hs45 => exact bel_next hS3 hb
 clear hK K hb
 try simp only [ly]
 refine tkJ 12 26 hS4 ?_; simp only [ly]
 refine tkJ 13 27 hS4 ?_; simp only [ly]
 refine tkJ 14 28 hS4 ?_; simp only [ly]
 refine tkJ 15 29 hS4 ?_; simp only [ly]
 refine tkI 16 30 ?v50 rfl rfl hS4 ?hy50 ?_
 case hy50 => (intro W hW; have e0 := bcell hW p0; have e1 := bcell hW p1; have e2 := bcell hW p2; have e3 := bcell hW p3; have e4 := bcell hW p4; have e5 := bcell hW q0; have e6 := bcell hW q1; have e7 := bcell hW q2; have e8 := bcell hW q3; have e9 := bcell hW q4; clear hW; go_simp; try rfl)
 simp only [ly]
 refine tkI 17 31 ?v51 rfl rfl hS4 ?hy51 ?_
 case hy51 => (intro W hW; have e0 := bcell hW p0; have e1 := bcell hW p1; have e2 := bcell hW p2; have e3 := bcell hW p3; have e4 := bcell hW p4; have e5 := bcell hW q0; have e6 := bcell hW q1; have e7 := bcell hW q2; have e8 := bcell hW q3; have e9 := bcell hW q4; clear hW; go_simp; try rfl)
 simp only [ly]
 refine tkI 19 33 ?v52 rfl rfl hS4 ?hy52 ?_
 case hy52 => (intro W hW; have e0 := bcell hW p0; have e1 := bcell hW p1; have e2 := bcell hW p2; have e3 := bcell hW p3; have e4 := bcell hW p4; have e5 := bcell hW q0; have e6 := bcell hW q1; have e7 := bcell hW q2; have e8 := bcell hW q3; have e9 := bcell hW q4; clear hW; go_simp; try rfl)
 simp only [ly]
 refine tkI 20 34 ?v53 rfl rfl hS4 ?hy53 ?_
 case hy53 => (intro W hW; have e0 := bcell hW p0; have e1 := bcell hW p1; have e2 := bcell hW p2; have e3 := bcell hW p3; have e4 := bcell hW p4; have e5 := bcell hW q0; have e6 := bcell hW q1; have e7 := bcell hW q2; have e8 := bcell hW q3; have e9 := bcell hW q4; clear hW; go_simp; try rfl)
 simp only [ly]
 refine wpAnyH_ready (rs := [18]) (by kernel_rfl) (by simp) ?_
 refine AllReadyH.cons rfl (fun K hK => ?_) AllReadyH.nil
 go_simp
 go_at_call 13
 refine (HZP1.out _ (bel_next HB.out hS4)).mono ?_
 rintro e wy ⟨rfl, hb⟩
 refine hK.out _ _ ?hs54 (fun hS5 => ?_)
 case hs54 => exact bel_next hS4 hb
 clear hK K hb
 try simp only [ly]
 refine wpAnyH_ready (rs := [21]) (by kernel_rfl) (by simp) ?_
 refine AllReadyH.cons rfl (fun K hK => ?_) AllReadyH.nil
 go_simp
 go_at_call 9
 refine (HZR1.out _ (bel_next HB.out hS5)).mono ?_
 rintro e wy ⟨rfl, hb⟩
 refine hK.out _ _ ?hs55 (fun hS6 => ?_)
 case hs55 => exact bel_next hS5 hb
 clear hK K hb
 try simp only [ly]
 refine tkJ 22 36 hS6 ?_; simp only [ly]
 refine tkJ 23 37 hS6 ?_; simp only [ly]
 refine tkJ 24 38 hS6 ?_; simp only [ly]
 refine tkI 25 39 ?v59 rfl rfl hS6 ?hy59 ?_
 case hy59 => (intro W hW; have e0 := bcell hW p0; have e1 := bcell hW p1; have e2 := bcell hW p2; have e3 := bcell hW p3; have e4 := bcell hW p4; have e5 := bcell hW q0; have e6 := bcell hW q1; have e7 := bcell hW q2; have e8 := bcell hW q3; have e9 := bcell hW q4; clear hW; go_simp; try rfl)
 simp only [ly]
 refine tkI 26 40 ?v60 rfl rfl hS6 ?hy60 ?_
 case hy60 => (intro W hW; have e0 := bcell hW p0; have e1 := bcell hW p1; have e2 := bcell hW p2; have e3 := bcell hW p3; have e4 := bcell hW p4; have e5 := bcell hW q0; have e6 := bcell hW q1; have e7 := bcell hW q2; have e8 := bcell hW q3; have e9 := bcell hW q4; clear hW; go_simp; try rfl)
 simp only [ly]
 refine wpAnyH_ready (rs := [27]) (by kernel_rfl) (by simp) ?_
 refine AllReadyH.cons rfl (fun K hK => ?_) AllReadyH.nil
 go_simp
 go_at_call 13
 refine (HZQ1.out _ (bel_next HB.out hS6)).mono ?_
 rintro e wy ⟨rfl, hb⟩
 refine hK.out _ _ ?hs61 (fun hS7 => ?_)
 case hs61 => exact bel_next hS6 hb
 clear hK K hb
 try simp only [ly]
 refine tkJ 28 42 hS7 ?_; simp only [ly]
 refine tkJ 29 43 hS7 ?_; simp only [ly]
 refine wpAnyH_ready (rs := [30]) (by kernel_rfl) (by simp) ?_
 refine AllReadyH.cons rfl (fun K hK => ?_) AllReadyH.nil
 go_simp
 go_at_call 6
 refine (HAW.out _ (bel_next HB.out hS7)).mono ?_
 rintro e wy ⟨rfl, hb⟩
 refine hK.out _ _ ?hs64 (fun hS8 => ?_)
 case hs64 => exact bel_next hS7 hb
 clear hK K hb
 try simp only [ly]
 refine tkJ 31 45 hS8 ?_; simp only [ly]
 refine tkJ 32 4 hS8 ?_; simp only [ly]
 refine wpAnyH_done (by kernel_rfl) ?_ _
 have HE := hide hS8
 go_wp2
 go_ret
 exact ⟨rfl, bel_next HB.out HE.out⟩

/-! ### The row's step -/
theorem door_met (os : Os) (args : Array Value) : laidMetH Tryz.prog Rows.sortsChecksRow.laid ((World.doorLaid Tryz.prog 400 os).forCall (fun _ _ => 0) ⟨#[], args, []⟩).memory :=
 laidMetH_of_parts3 (fuel := 8) (laidMet_of_run' 8 (by kernel_rfl) (by kernel_rfl)) (by kernel_rfl) (by kernel_rfl)
set_option maxRecDepth 100000 in
theorem lifted (os : Os) (started : os.Started) (H : Type) (enc : TypeId × Value → H) :
  ReturnsInHanded {} Tryz.checked os 4 .any (fun w args => (Rows.sortsChecksSpec.pre enc Tryz.prog Tryz.f4 Rows.sortsChecksRow.domain false w args ∧ laidMetH Tryz.prog Rows.sortsChecksRow.laid w) ∧ sizedMet enc Tryz.prog Tryz.f4 (OpenSpec.ofChange Rows.sortsChecksSpec) false w args) (Rows.sortsChecksSpec.post enc Tryz.prog Tryz.f4 false true false false) := by
 refine returnsInHanded_of_change_and (C := Tryz.checked) (X := fun w _ => laidMetH Tryz.prog Rows.sortsChecksRow.laid w) (fun _ _ _ hh h => h.of_heap hh) own started (by kernel_rfl) Tryz.func4
  (ChangeSpec.witness_shaped (enc := enc) (C := Tryz.checked) (os := os) (X := fun w _ => laidMetH Tryz.prog Rows.sortsChecksRow.laid w) false (World.doorLaid Tryz.prog 400 os) #[.agg #[.slice none 0 0, .slice none 0 0, .slice none 0 0, .slice none 0 0, .slice none 0 0], .agg #[.slice none 0 0, .slice none 0 0, .slice none 0 0, .slice none 0 0, .slice none 0 0]] 8 rfl (World.shaped_of_RefB (by kernel_rfl) (by kernel_rfl)) (by kernel_rfl) (by kernel_rfl) (by kernel_rfl) (door_met os _)) ?_
 intro W base args ds gs before hval0 hW hcnd hz0 hL _
 have hval : ∀ (j : Nat) t v, Tryz.f4.params[j]? = some t → args[j]? = some v → Value.okWide Tryz.prog W .any base t v := hval0
 have hz : (DataW.weightsEach Tryz.prog (Tryz.f4.params.toList ++ Rows.sortsChecksSpec.plain.varTypes Tryz.prog) (ds ++ gs)).all (· ≤ reachBytes) = true := hz0
 have hW' := hW
 obtain ⟨p, q, hA0, hV, rfl, hfz, hnd⟩ := hW
 have hA : DataW.TrodAll enc Tryz.prog W 0 (fun _ => true) true Tryz.f4.params.toList args.toList ds p := hA0
 rw [Tryz.params4] at hA hval hz
 obtain ⟨v0, vs0, d0, ds0, p0, q0, hargs, rfl, rfl, h0, r0⟩ := trodAll_cons hA
 obtain ⟨v1, vs1, d1, ds1, p1, q1, rfl, rfl, rfl, h1, r1⟩ := trodAll_cons r0
 obtain ⟨rfl, rfl, rfl⟩ := trodAll_nil r1
 obtain rfl : args = #[v0, v1] := by cases args; simp_all
 obtain ⟨rfl, rfl⟩ := trodVars_none hV
 have k0 := h0
 have lt0 : ∀ x ∈ p0, x.block < W.heap.size := by obtain ⟨m, hm⟩ := k0; exact DataW.trod_lt m _ _ _ hm
 have w0 : InR16 W v0 := in_rules (hval 0 29 v0 rfl rfl) h0 (fun n hn => by have := List.all_eq_true.1 hz n (DataW.weights_mem_each (j := 0) (t := 29) rfl rfl n hn); simpa using this)
 have k1 := h1
 have lt1 : ∀ x ∈ p1, x.block < W.heap.size := by obtain ⟨m, hm⟩ := k1; exact DataW.trod_lt m _ _ _ hm
 have w1 : InR16 W v1 := in_rules (hval 1 29 v1 rfl rfl) h1 (fun n hn => by have := List.all_eq_true.1 hz n (DataW.weights_mem_each (j := 1) (t := 29) rfl rfl n hn); simpa using this)
 clear hA0 hval0 hz0
 refine (walk v0 v1 W w0 w1 (lv_of hL)).mono fun e W' ⟨he, bel⟩ => ?_
 subst he
 exact ⟨_, rfl, _, _, _, [], _, [], hW', trodAll_mk1 (shut_bool Tryz.underlying4 _), (trodAll_cons_mk (Below.trod laidOut (by kernel_rfl) (of_decide_eq_true (by kernel_rfl)) k0 bel lt0) (trodAll_cons_mk (Below.trod laidOut (by kernel_rfl) (of_decide_eq_true (by kernel_rfl)) k1 bel lt1) trodAll_mk0)), rfl, bel.frame _, fun h => by cases h⟩

theorem over : Rows.sortsChecksRow.holds Tryz.pinned (OpenSpec.ofChange Rows.sortsChecksSpec) :=
 OpenClaim.holds_of_wide 4 Tryz.f4 rfl rfl rfl rfl rfl rfl rfl ⟨rfl, rfl, rfl, rfl, rfl⟩ rfl rfl rfl rfl rfl (by kernel_rfl) Tryz.func4 (by kernel_rfl)
  (of_decide_eq_true (by kernel_rfl)) (by unfold Func.isWrapper; first | (rw [if_pos (by decide +kernel)]; kernel_rfl) | (rw [if_neg (by decide +kernel)]; exact ⟨rfl, rfl⟩))
  (fun os started H enc _ => lifted os started H enc)
end Go.Proofs.YtomppblgalepjaaGreatDoor.sortsChecks
namespace Go.Proofs.YtomppblgalepjaaGreatDoor
open Go
theorem sortsChecks_plain (f : FuncId) (fn : Func) (hf : Tryz.pinned.checked.prog.funcNamed "huckster/hucksterlaw16.SortsChecks" = some f) (hfn : Tryz.pinned.checked.prog.funcs[f]? = some fn) :
  true = Tryz.pinned.checked.prog.looks [] ∧ ∀ (j : Nat) t, fn.params[j]? = some t → Tryz.pinned.checked.prog.wantsStandIn t = false := by
 obtain rfl : f = 4 := Option.some.inj ((show Tryz.prog.funcNamed "huckster/hucksterlaw16.SortsChecks" = some 4 by kernel_rfl).symm.trans hf) |>.symm
 obtain rfl : fn = Tryz.f4 := (Option.some.inj (Tryz.func4.symm.trans hfn)).symm
 refine ⟨by kernel_rfl, fun j t ht => ?_⟩
 rw [Tryz.params4] at ht
 have hm : t ∈ [29, 29] := by simpa using Array.mem_of_getElem? ht
 have hall : ([29, 29].all fun u => !Tryz.prog.wantsStandIn u) = true := by kernel_rfl
 exact (show Tryz.prog.wantsStandIn t = false by simpa using List.all_eq_true.1 hall t hm)
theorem sortsChecks_holds : Rows.SortsChecksCardSaid :=
 Claim7.holds_tied_plain_at .later [] _ _ _ _ sortsChecks.over (fun _ h => by cases h) (by kernel_rfl) (fun _ h => by cases h) sortsChecks_row_tie rfl ⟨rfl, rfl⟩ (by kernel_rfl) rfl sortsChecks_plain (by kernel_rfl)
end Go.Proofs.YtomppblgalepjaaGreatDoor

