/- Texts of this claim, joined: ONs. -/
import Derived.Test.YtomppblgalepjaaGreatDoorJ43
/- The program's Same (layer 16). -/
namespace Go.Proofs.YtomppblgalepjaaGreatDoor
open Go.RowKit Go.Lib
set_option linter.unusedVariables false
theorem zOf (P : Prop) : ∃ z : Bool, z = true ↔ P := by
 by_cases h : P
 ·exact ⟨true, by simp [h]⟩
 ·exact ⟨false, by simp [h]⟩
set_option maxHeartbeats 8000000 in
theorem SameP16 (b : Bool) {a1 a2 a3 a4 a5 : Option Addr} {n1 n2 n3 n4 n5 c1 c2 c3 c4 c5 : Nat} {b1 b2 b3 b4 b5 : Option Addr} {m1 m2 m3 m4 m5 d1 d2 d3 d4 d5 : Nat} {S1 S2 S3 T1 T2 T3 : List ByteArray} {K4 L4 : List Cl} {O5 P5 : List Op} (hb : b = true ↔ ((S1, S2, S3, K4, O5) : Ru) = (T1, T2, T3, L4, P5)) (w : World) (hM : RuM w a1 a2 a3 a4 a5 n1 n2 n3 n4 n5 c1 c2 c3 c4 c5 (S1, S2, S3, K4, O5)) (hN : RuM w b1 b2 b3 b4 b5 m1 m2 m3 m4 m5 d1 d2 d3 d4 d5 (T1, T2, T3, L4, P5)) (h1 : n1 ≤ 100000 ∧ n2 ≤ 100000 ∧ n3 ≤ 100000 ∧ n4 ≤ 100000 ∧ n5 ≤ 100000) (h2 : m1 ≤ 100000 ∧ m2 ≤ 100000 ∧ m3 ≤ 100000 ∧ m4 ≤ 100000 ∧ m5 ≤ 100000) (hd1 : ∀ o ∈ O5, o.2.length ≤ 100000) (hd2 : ∀ o ∈ P5, o.2.length ≤ 100000) :
  Calls Tryz.prog 13 #[.agg #[.slice a1 n1 c1, .slice a2 n2 c2, .slice a3 n3 c3, .slice a4 n4 c4, .slice a5 n5 c5], .agg #[.slice b1 m1 d1, .slice b2 m2 d2, .slice b3 m3 d3, .slice b4 m4 d4, .slice b5 m5 d5]] w fun e w' => e = .returned (.bool b) ∧ Below w.heap.size w w' := by
 obtain ⟨z1, hz1⟩ := zOf (S1 = T1)
 obtain ⟨z2, hz2⟩ := zOf (S2 = T2)
 obtain ⟨z3, hz3⟩ := zOf (S3 = T3)
 obtain ⟨z4, hz4⟩ := zOf (K4 = L4)
 obtain ⟨z5, hz5⟩ := zOf (O5 = P5)
 have hbz : b = (z1 && (z2 && (z3 && (z4 && z5)))) := by
  rw [Bool.eq_iff_iff, Bool.and_eq_true, Bool.and_eq_true, Bool.and_eq_true, Bool.and_eq_true, hb, hz1, hz2, hz3, hz4, hz5, Prod.mk.injEq, Prod.mk.injEq, Prod.mk.injEq, Prod.mk.injEq]
 have HE1 := hide (fun W (hW : Below w.heap.size w W) => eqSSt z1 a1 n1 c1 S1 b1 m1 d1 T1 hz1 W (hM.1.1.below hW) (hN.1.1.below hW) (by omega) (by omega))
 have HE2 := hide (fun W (hW : Below w.heap.size w W) => eqSSt z2 a2 n2 c2 S2 b2 m2 d2 T2 hz2 W (hM.2.1.1.below hW) (hN.2.1.1.below hW) (by omega) (by omega))
 have HE3 := hide (fun W (hW : Below w.heap.size w W) => eqSSt z3 a3 n3 c3 S3 b3 m3 d3 T3 hz3 W (hM.2.2.1.1.below hW) (hN.2.2.1.1.below hW) (by omega) (by omega))
 have HE4 := hide (fun W (hW : Below w.heap.size w W) => eqSCl z4 a4 n4 c4 K4 b4 m4 d4 L4 hz4 W (hM.2.2.2.1.1.below hW) (hN.2.2.2.1.1.below hW) (by omega) (by omega))
 have HE5 := hide (fun W (hW : Below w.heap.size w W) => eqSOp z5 a5 n5 c5 O5 b5 m5 d5 P5 hz5 W (hM.2.2.2.2.1.below ROp.st hW) (hN.2.2.2.2.1.below ROp.st hW) (by omega) (by omega) hd1 hd2)
 have HBL := hide (bel2 w (.cells #[.slice a1 n1 c1, .slice a2 n2 c2, .slice a3 n3 c3, .slice a4 n4 c4, .slice a5 n5 c5] 29) (.cells #[.slice b1 m1 d1, .slice b2 m2 d2, .slice b3 m3 d3, .slice b4 m4 d4, .slice b5 m5 d5] 29))
 have HX : Hid (BX ((w.alloc (.cells #[.slice a1 n1 c1, .slice a2 n2 c2, .slice a3 n3 c3, .slice a4 n4 c4, .slice a5 n5 c5] 29)).alloc (.cells #[.slice b1 m1 d1, .slice b2 m2 d2, .slice b3 m3 d3, .slice b4 m4 d4, .slice b5 m5 d5] 29)) w.heap.size #[.slice a1 n1 c1, .slice a2 n2 c2, .slice a3 n3 c3, .slice a4 n4 c4, .slice a5 n5 c5] 29) := (BX.new w _ rfl _ _).alloc _
 have HY : Hid (BX ((w.alloc (.cells #[.slice a1 n1 c1, .slice a2 n2 c2, .slice a3 n3 c3, .slice a4 n4 c4, .slice a5 n5 c5] 29)).alloc (.cells #[.slice b1 m1 d1, .slice b2 m2 d2, .slice b3 m3 d3, .slice b4 m4 d4, .slice b5 m5 d5] 29)) (w.heap.size + 1) #[.slice b1 m1 d1, .slice b2 m2 d2, .slice b3 m3 d3, .slice b4 m4 d4, .slice b5 m5 d5] 29) := BX.new (w.alloc (.cells #[.slice a1 n1 c1, .slice a2 n2 c2, .slice a3 n3 c3, .slice a4 n4 c4, .slice a5 n5 c5] 29)) _ (by simp) _ _
 clear hM hN h1 h2 hd1 hd2 hb hz1 hz2 hz3 hz4 hz5
 cases z1
 ·rw [Bool.false_and] at hbz
  subst hbz
  go_enter Tryz.func13, Tryz.ntmps13
  go_upto_region 1 with fail
  generalize (w.alloc (.cells #[.slice a1 n1 c1, .slice a2 n2 c2, .slice a3 n3 c3, .slice a4 n4 c4, .slice a5 n5 c5] 29)).alloc (.cells #[.slice b1 m1 d1, .slice b2 m2 d2, .slice b3 m3 d3, .slice b4 m4 d4, .slice b5 m5 d5] 29) = u at *
  have p0 := HX.out.cell 0 _ rfl
  have q0 := HY.out.cell 0 _ rfl
  have p1 := HX.out.cell 1 _ rfl
  have q1 := HY.out.cell 1 _ rfl
  have p2 := HX.out.cell 2 _ rfl
  have q2 := HY.out.cell 2 _ rfl
  have p3 := HX.out.cell 3 _ rfl
  have q3 := HY.out.cell 3 _ rfl
  have p4 := HX.out.cell 4 _ rfl
  have q4 := HY.out.cell 4 _ rfl
  clear HX HY
  go_wp2_with (first | (go_at_call 31; have hc := HE1.out; clear HE1; refine (hc _ HBL.out).mono ?_; rintro e w1 ⟨rfl, hb⟩; replace HBL := hide (bel_next HBL.out hb); replace p0 := bcell hb p0; replace p1 := bcell hb p1; replace p2 := bcell hb p2; replace p3 := bcell hb p3; replace p4 := bcell hb p4; replace q0 := bcell hb q0; replace q1 := bcell hb q1; replace q2 := bcell hb q2; replace q3 := bcell hb q3; replace q4 := bcell hb q4; clear hb hc))
  go_ret
  exact ⟨rfl, HBL.out⟩
 ·rw [Bool.true_and] at hbz
  cases z2
  ·rw [Bool.false_and] at hbz
   subst hbz
   go_enter Tryz.func13, Tryz.ntmps13
   go_upto_region 1 with fail
   generalize (w.alloc (.cells #[.slice a1 n1 c1, .slice a2 n2 c2, .slice a3 n3 c3, .slice a4 n4 c4, .slice a5 n5 c5] 29)).alloc (.cells #[.slice b1 m1 d1, .slice b2 m2 d2, .slice b3 m3 d3, .slice b4 m4 d4, .slice b5 m5 d5] 29) = u at *
   have p0 := HX.out.cell 0 _ rfl
   have q0 := HY.out.cell 0 _ rfl
   have p1 := HX.out.cell 1 _ rfl
   have q1 := HY.out.cell 1 _ rfl
   have p2 := HX.out.cell 2 _ rfl
   have q2 := HY.out.cell 2 _ rfl
   have p3 := HX.out.cell 3 _ rfl
   have q3 := HY.out.cell 3 _ rfl
   have p4 := HX.out.cell 4 _ rfl
   have q4 := HY.out.cell 4 _ rfl
   clear HX HY
   go_wp2_with (first | (go_at_call 31; have hc := HE1.out; clear HE1; refine (hc _ HBL.out).mono ?_; rintro e w1 ⟨rfl, hb⟩; replace HBL := hide (bel_next HBL.out hb); replace p0 := bcell hb p0; replace p1 := bcell hb p1; replace p2 := bcell hb p2; replace p3 := bcell hb p3; replace p4 := bcell hb p4; replace q0 := bcell hb q0; replace q1 := bcell hb q1; replace q2 := bcell hb q2; replace q3 := bcell hb q3; replace q4 := bcell hb q4; clear hb hc) | (go_at_call 31; have hc := HE2.out; clear HE2; refine (hc _ HBL.out).mono ?_; rintro e w2 ⟨rfl, hb⟩; replace HBL := hide (bel_next HBL.out hb); replace p0 := bcell hb p0; replace p1 := bcell hb p1; replace p2 := bcell hb p2; replace p3 := bcell hb p3; replace p4 := bcell hb p4; replace q0 := bcell hb q0; replace q1 := bcell hb q1; replace q2 := bcell hb q2; replace q3 := bcell hb q3; replace q4 := bcell hb q4; clear hb hc))
   go_ret
   exact ⟨rfl, HBL.out⟩
  ·rw [Bool.true_and] at hbz
   cases z3
   ·rw [Bool.false_and] at hbz
    subst hbz
    go_enter Tryz.func13, Tryz.ntmps13
    go_upto_region 1 with fail
    generalize (w.alloc (.cells #[.slice a1 n1 c1, .slice a2 n2 c2, .slice a3 n3 c3, .slice a4 n4 c4, .slice a5 n5 c5] 29)).alloc (.cells #[.slice b1 m1 d1, .slice b2 m2 d2, .slice b3 m3 d3, .slice b4 m4 d4, .slice b5 m5 d5] 29) = u at *
    have p0 := HX.out.cell 0 _ rfl
    have q0 := HY.out.cell 0 _ rfl
    have p1 := HX.out.cell 1 _ rfl
    have q1 := HY.out.cell 1 _ rfl
    have p2 := HX.out.cell 2 _ rfl
    have q2 := HY.out.cell 2 _ rfl
    have p3 := HX.out.cell 3 _ rfl
    have q3 := HY.out.cell 3 _ rfl
    have p4 := HX.out.cell 4 _ rfl
    have q4 := HY.out.cell 4 _ rfl
    clear HX HY
    go_wp2_with (first | (go_at_call 31; have hc := HE1.out; clear HE1; refine (hc _ HBL.out).mono ?_; rintro e w1 ⟨rfl, hb⟩; replace HBL := hide (bel_next HBL.out hb); replace p0 := bcell hb p0; replace p1 := bcell hb p1; replace p2 := bcell hb p2; replace p3 := bcell hb p3; replace p4 := bcell hb p4; replace q0 := bcell hb q0; replace q1 := bcell hb q1; replace q2 := bcell hb q2; replace q3 := bcell hb q3; replace q4 := bcell hb q4; clear hb hc) | (go_at_call 31; have hc := HE2.out; clear HE2; refine (hc _ HBL.out).mono ?_; rintro e w2 ⟨rfl, hb⟩; replace HBL := hide (bel_next HBL.out hb); replace p0 := bcell hb p0; replace p1 := bcell hb p1; replace p2 := bcell hb p2; replace p3 := bcell hb p3; replace p4 := bcell hb p4; replace q0 := bcell hb q0; replace q1 := bcell hb q1; replace q2 := bcell hb q2; replace q3 := bcell hb q3; replace q4 := bcell hb q4; clear hb hc) | (go_at_call 31; have hc := HE3.out; clear HE3; refine (hc _ HBL.out).mono ?_; rintro e w3 ⟨rfl, hb⟩; replace HBL := hide (bel_next HBL.out hb); replace p0 := bcell hb p0; replace p1 := bcell hb p1; replace p2 := bcell hb p2; replace p3 := bcell hb p3; replace p4 := bcell hb p4; replace q0 := bcell hb q0; replace q1 := bcell hb q1; replace q2 := bcell hb q2; replace q3 := bcell hb q3; replace q4 := bcell hb q4; clear hb hc))
    go_ret
    exact ⟨rfl, HBL.out⟩
   ·rw [Bool.true_and] at hbz
    cases z4
    ·rw [Bool.false_and] at hbz
     subst hbz
     go_enter Tryz.func13, Tryz.ntmps13
     go_upto_region 1 with fail
     generalize (w.alloc (.cells #[.slice a1 n1 c1, .slice a2 n2 c2, .slice a3 n3 c3, .slice a4 n4 c4, .slice a5 n5 c5] 29)).alloc (.cells #[.slice b1 m1 d1, .slice b2 m2 d2, .slice b3 m3 d3, .slice b4 m4 d4, .slice b5 m5 d5] 29) = u at *
     have p0 := HX.out.cell 0 _ rfl
     have q0 := HY.out.cell 0 _ rfl
     have p1 := HX.out.cell 1 _ rfl
     have q1 := HY.out.cell 1 _ rfl
     have p2 := HX.out.cell 2 _ rfl
     have q2 := HY.out.cell 2 _ rfl
     have p3 := HX.out.cell 3 _ rfl
     have q3 := HY.out.cell 3 _ rfl
     have p4 := HX.out.cell 4 _ rfl
     have q4 := HY.out.cell 4 _ rfl
     clear HX HY
     go_wp2_with (first | (go_at_call 31; have hc := HE1.out; clear HE1; refine (hc _ HBL.out).mono ?_; rintro e w1 ⟨rfl, hb⟩; replace HBL := hide (bel_next HBL.out hb); replace p0 := bcell hb p0; replace p1 := bcell hb p1; replace p2 := bcell hb p2; replace p3 := bcell hb p3; replace p4 := bcell hb p4; replace q0 := bcell hb q0; replace q1 := bcell hb q1; replace q2 := bcell hb q2; replace q3 := bcell hb q3; replace q4 := bcell hb q4; clear hb hc) | (go_at_call 31; have hc := HE2.out; clear HE2; refine (hc _ HBL.out).mono ?_; rintro e w2 ⟨rfl, hb⟩; replace HBL := hide (bel_next HBL.out hb); replace p0 := bcell hb p0; replace p1 := bcell hb p1; replace p2 := bcell hb p2; replace p3 := bcell hb p3; replace p4 := bcell hb p4; replace q0 := bcell hb q0; replace q1 := bcell hb q1; replace q2 := bcell hb q2; replace q3 := bcell hb q3; replace q4 := bcell hb q4; clear hb hc) | (go_at_call 31; have hc := HE3.out; clear HE3; refine (hc _ HBL.out).mono ?_; rintro e w3 ⟨rfl, hb⟩; replace HBL := hide (bel_next HBL.out hb); replace p0 := bcell hb p0; replace p1 := bcell hb p1; replace p2 := bcell hb p2; replace p3 := bcell hb p3; replace p4 := bcell hb p4; replace q0 := bcell hb q0; replace q1 := bcell hb q1; replace q2 := bcell hb q2; replace q3 := bcell hb q3; replace q4 := bcell hb q4; clear hb hc) | (go_at_call 32; have hc := HE4.out; clear HE4; refine (hc _ HBL.out).mono ?_; rintro e w4 ⟨rfl, hb⟩; replace HBL := hide (bel_next HBL.out hb); replace p0 := bcell hb p0; replace p1 := bcell hb p1; replace p2 := bcell hb p2; replace p3 := bcell hb p3; replace p4 := bcell hb p4; replace q0 := bcell hb q0; replace q1 := bcell hb q1; replace q2 := bcell hb q2; replace q3 := bcell hb q3; replace q4 := bcell hb q4; clear hb hc))
     go_ret
     exact ⟨rfl, HBL.out⟩
    ·rw [Bool.true_and] at hbz
     cases z5
     ·subst hbz
      go_enter Tryz.func13, Tryz.ntmps13
      go_upto_region 1 with fail
      generalize (w.alloc (.cells #[.slice a1 n1 c1, .slice a2 n2 c2, .slice a3 n3 c3, .slice a4 n4 c4, .slice a5 n5 c5] 29)).alloc (.cells #[.slice b1 m1 d1, .slice b2 m2 d2, .slice b3 m3 d3, .slice b4 m4 d4, .slice b5 m5 d5] 29) = u at *
      have p0 := HX.out.cell 0 _ rfl
      have q0 := HY.out.cell 0 _ rfl
      have p1 := HX.out.cell 1 _ rfl
      have q1 := HY.out.cell 1 _ rfl
      have p2 := HX.out.cell 2 _ rfl
      have q2 := HY.out.cell 2 _ rfl
      have p3 := HX.out.cell 3 _ rfl
      have q3 := HY.out.cell 3 _ rfl
      have p4 := HX.out.cell 4 _ rfl
      have q4 := HY.out.cell 4 _ rfl
      clear HX HY
      go_wp2_with (first | (go_at_call 31; have hc := HE1.out; clear HE1; refine (hc _ HBL.out).mono ?_; rintro e w1 ⟨rfl, hb⟩; replace HBL := hide (bel_next HBL.out hb); replace p0 := bcell hb p0; replace p1 := bcell hb p1; replace p2 := bcell hb p2; replace p3 := bcell hb p3; replace p4 := bcell hb p4; replace q0 := bcell hb q0; replace q1 := bcell hb q1; replace q2 := bcell hb q2; replace q3 := bcell hb q3; replace q4 := bcell hb q4; clear hb hc) | (go_at_call 31; have hc := HE2.out; clear HE2; refine (hc _ HBL.out).mono ?_; rintro e w2 ⟨rfl, hb⟩; replace HBL := hide (bel_next HBL.out hb); replace p0 := bcell hb p0; replace p1 := bcell hb p1; replace p2 := bcell hb p2; replace p3 := bcell hb p3; replace p4 := bcell hb p4; replace q0 := bcell hb q0; replace q1 := bcell hb q1; replace q2 := bcell hb q2; replace q3 := bcell hb q3; replace q4 := bcell hb q4; clear hb hc) | (go_at_call 31; have hc := HE3.out; clear HE3; refine (hc _ HBL.out).mono ?_; rintro e w3 ⟨rfl, hb⟩; replace HBL := hide (bel_next HBL.out hb); replace p0 := bcell hb p0; replace p1 := bcell hb p1; replace p2 := bcell hb p2; replace p3 := bcell hb p3; replace p4 := bcell hb p4; replace q0 := bcell hb q0; replace q1 := bcell hb q1; replace q2 := bcell hb q2; replace q3 := bcell hb q3; replace q4 := bcell hb q4; clear hb hc) | (go_at_call 32; have hc := HE4.out; clear HE4; refine (hc _ HBL.out).mono ?_; rintro e w4 ⟨rfl, hb⟩; replace HBL := hide (bel_next HBL.out hb); replace p0 := bcell hb p0; replace p1 := bcell hb p1; replace p2 := bcell hb p2; replace p3 := bcell hb p3; replace p4 := bcell hb p4; replace q0 := bcell hb q0; replace q1 := bcell hb q1; replace q2 := bcell hb q2; replace q3 := bcell hb q3; replace q4 := bcell hb q4; clear hb hc) | (go_at_call 33; have hc := HE5.out; clear HE5; refine (hc _ HBL.out).mono ?_; rintro e w5 ⟨rfl, hb⟩; replace HBL := hide (bel_next HBL.out hb); replace p0 := bcell hb p0; replace p1 := bcell hb p1; replace p2 := bcell hb p2; replace p3 := bcell hb p3; replace p4 := bcell hb p4; replace q0 := bcell hb q0; replace q1 := bcell hb q1; replace q2 := bcell hb q2; replace q3 := bcell hb q3; replace q4 := bcell hb q4; clear hb hc))
      go_ret
      exact ⟨rfl, HBL.out⟩
     ·subst hbz
      go_enter Tryz.func13, Tryz.ntmps13
      go_upto_region 1 with fail
      generalize (w.alloc (.cells #[.slice a1 n1 c1, .slice a2 n2 c2, .slice a3 n3 c3, .slice a4 n4 c4, .slice a5 n5 c5] 29)).alloc (.cells #[.slice b1 m1 d1, .slice b2 m2 d2, .slice b3 m3 d3, .slice b4 m4 d4, .slice b5 m5 d5] 29) = u at *
      have p0 := HX.out.cell 0 _ rfl
      have q0 := HY.out.cell 0 _ rfl
      have p1 := HX.out.cell 1 _ rfl
      have q1 := HY.out.cell 1 _ rfl
      have p2 := HX.out.cell 2 _ rfl
      have q2 := HY.out.cell 2 _ rfl
      have p3 := HX.out.cell 3 _ rfl
      have q3 := HY.out.cell 3 _ rfl
      have p4 := HX.out.cell 4 _ rfl
      have q4 := HY.out.cell 4 _ rfl
      clear HX HY
      go_wp2_with (first | (go_at_call 31; have hc := HE1.out; clear HE1; refine (hc _ HBL.out).mono ?_; rintro e w1 ⟨rfl, hb⟩; replace HBL := hide (bel_next HBL.out hb); replace p0 := bcell hb p0; replace p1 := bcell hb p1; replace p2 := bcell hb p2; replace p3 := bcell hb p3; replace p4 := bcell hb p4; replace q0 := bcell hb q0; replace q1 := bcell hb q1; replace q2 := bcell hb q2; replace q3 := bcell hb q3; replace q4 := bcell hb q4; clear hb hc) | (go_at_call 31; have hc := HE2.out; clear HE2; refine (hc _ HBL.out).mono ?_; rintro e w2 ⟨rfl, hb⟩; replace HBL := hide (bel_next HBL.out hb); replace p0 := bcell hb p0; replace p1 := bcell hb p1; replace p2 := bcell hb p2; replace p3 := bcell hb p3; replace p4 := bcell hb p4; replace q0 := bcell hb q0; replace q1 := bcell hb q1; replace q2 := bcell hb q2; replace q3 := bcell hb q3; replace q4 := bcell hb q4; clear hb hc) | (go_at_call 31; have hc := HE3.out; clear HE3; refine (hc _ HBL.out).mono ?_; rintro e w3 ⟨rfl, hb⟩; replace HBL := hide (bel_next HBL.out hb); replace p0 := bcell hb p0; replace p1 := bcell hb p1; replace p2 := bcell hb p2; replace p3 := bcell hb p3; replace p4 := bcell hb p4; replace q0 := bcell hb q0; replace q1 := bcell hb q1; replace q2 := bcell hb q2; replace q3 := bcell hb q3; replace q4 := bcell hb q4; clear hb hc) | (go_at_call 32; have hc := HE4.out; clear HE4; refine (hc _ HBL.out).mono ?_; rintro e w4 ⟨rfl, hb⟩; replace HBL := hide (bel_next HBL.out hb); replace p0 := bcell hb p0; replace p1 := bcell hb p1; replace p2 := bcell hb p2; replace p3 := bcell hb p3; replace p4 := bcell hb p4; replace q0 := bcell hb q0; replace q1 := bcell hb q1; replace q2 := bcell hb q2; replace q3 := bcell hb q3; replace q4 := bcell hb q4; clear hb hc) | (go_at_call 33; have hc := HE5.out; clear HE5; refine (hc _ HBL.out).mono ?_; rintro e w5 ⟨rfl, hb⟩; replace HBL := hide (bel_next HBL.out hb); replace p0 := bcell hb p0; replace p1 := bcell hb p1; replace p2 := bcell hb p2; replace p3 := bcell hb p3; replace p4 := bcell hb p4; replace q0 := bcell hb q0; replace q1 := bcell hb q1; replace q2 := bcell hb q2; replace q3 := bcell hb q3; replace q4 := bcell hb q4; clear hb hc))
      go_ret
      exact ⟨rfl, HBL.out⟩
end Go.Proofs.YtomppblgalepjaaGreatDoor

