/- Texts of this claim, joined: T5. -/
import Derived.Test.YtomppblgalepjaaGreatDoorJ30
/- Whether rules are alike: the document's (layer 16). -/
namespace Go.Proofs.YtomppblgalepjaaGreatDoor
open Go.RowKit Go.Lib
set_option linter.unusedVariables false
set_option maxRecDepth 2000 in
set_option maxHeartbeats 8000000 in
theorem Same16 (b : Bool) {a1 a2 a3 a4 a5 : Option Addr} {n1 n2 n3 n4 n5 c1 c2 c3 c4 c5 : Nat} {b1 b2 b3 b4 b5 : Option Addr} {m1 m2 m3 m4 m5 d1 d2 d3 d4 d5 : Nat} {S1 S2 S3 T1 T2 T3 : List ByteArray} {K4 L4 : List Cl} {O5 P5 : List Op} (hb : b = true ↔ ((S1, S2, S3, K4, O5) : Ru) = (T1, T2, T3, L4, P5)) (w : World) (hM : RuM w a1 a2 a3 a4 a5 n1 n2 n3 n4 n5 c1 c2 c3 c4 c5 (S1, S2, S3, K4, O5)) (hN : RuM w b1 b2 b3 b4 b5 m1 m2 m3 m4 m5 d1 d2 d3 d4 d5 (T1, T2, T3, L4, P5)) (h1 : n1 ≤ 1000 ∧ n2 ≤ 1000 ∧ n3 ≤ 1000 ∧ n4 ≤ 1000 ∧ n5 ≤ 1000) (h2 : m1 ≤ 1000 ∧ m2 ≤ 1000 ∧ m3 ≤ 1000 ∧ m4 ≤ 1000 ∧ m5 ≤ 1000) (hd1 : ∀ o ∈ O5, o.2.length ≤ 1000) (hd2 : ∀ o ∈ P5, o.2.length ≤ 1000) : Calls Tryz.prog 9 #[.agg #[.slice a1 n1 c1, .slice a2 n2 c2, .slice a3 n3 c3, .slice a4 n4 c4, .slice a5 n5 c5], .agg #[.slice b1 m1 d1, .slice b2 m2 d2, .slice b3 m3 d3, .slice b4 m4 d4, .slice b5 m5 d5]] w fun e w' => e = .returned (.bool b) ∧ Below w.heap.size w w' := by
 have e0 := bel1 w (.cells #[.slice a1 n1 c1, .slice a2 n2 c2, .slice a3 n3 c3, .slice a4 n4 c4, .slice a5 n5 c5] 29)
 have e1 := bel1 (w.alloc (.cells #[.slice a1 n1 c1, .slice a2 n2 c2, .slice a3 n3 c3, .slice a4 n4 c4, .slice a5 n5 c5] 29)) (.cells #[.slice b1 m1 d1, .slice b2 m2 d2, .slice b3 m3 d3, .slice b4 m4 d4, .slice b5 m5 d5] 29)
 have s1 : (w.alloc (.cells #[.slice a1 n1 c1, .slice a2 n2 c2, .slice a3 n3 c3, .slice a4 n4 c4, .slice a5 n5 c5] 29)).heap.size = w.heap.size + 1 := by first | rfl | simp
 have HP : Hid (BX ((w.alloc (.cells #[.slice a1 n1 c1, .slice a2 n2 c2, .slice a3 n3 c3, .slice a4 n4 c4, .slice a5 n5 c5] 29)).alloc (.cells #[.slice b1 m1 d1, .slice b2 m2 d2, .slice b3 m3 d3, .slice b4 m4 d4, .slice b5 m5 d5] 29)) w.heap.size #[.slice a1 n1 c1, .slice a2 n2 c2, .slice a3 n3 c3, .slice a4 n4 c4, .slice a5 n5 c5] 29) := (BX.new w _ rfl _ _).below e1
 have HQ : Hid (BX ((w.alloc (.cells #[.slice a1 n1 c1, .slice a2 n2 c2, .slice a3 n3 c3, .slice a4 n4 c4, .slice a5 n5 c5] 29)).alloc (.cells #[.slice b1 m1 d1, .slice b2 m2 d2, .slice b3 m3 d3, .slice b4 m4 d4, .slice b5 m5 d5] 29)) (w.heap.size + 1) #[.slice b1 m1 d1, .slice b2 m2 d2, .slice b3 m3 d3, .slice b4 m4 d4, .slice b5 m5 d5] 29) := BX.new (w.alloc (.cells #[.slice a1 n1 c1, .slice a2 n2 c2, .slice a3 n3 c3, .slice a4 n4 c4, .slice a5 n5 c5] 29)) _ s1.symm _ _
 have HM := hide ((hM.below e0).below e1)
 have HN := hide ((hN.below e0).below e1)
 have HB := hide (bel_next e0 e1)
 have HBB := hide hb
 have HD1 := hide hd1
 have HD2 := hide hd2
 obtain ⟨g1, g2, g3, g4, g5⟩ := h1
 obtain ⟨i1, i2, i3, i4, i5⟩ := h2
 have hk1 : K4.length = n4 := hM.2.2.2.1.1.1
 have hk2 : L4.length = m4 := hN.2.2.2.1.1.1
 have ho1 : O5.length = n5 := SF.len hM.2.2.2.2.1
 have ho2 : P5.length = m5 := SF.len hN.2.2.2.2.1
 have hbb : ∀ z : Int, (z != z) = false := fun z => by simp
 clear e0 e1 s1 hM hN hb hd1 hd2
 go_enter Tryz.func9, Tryz.ntmps9
 go_upto_region 1 with fail
 obtain ⟨gP, hgP⟩ : ∃ g, w.heap.size = g := ⟨_, rfl⟩
 obtain ⟨gQ, hgQ⟩ : ∃ g, gP + 1 = g := ⟨_, rfl⟩
 rw [hgP] at HP
 rw [hgP, hgQ] at HQ
 try rw [hgP]
 try rw [hgQ]
 clear hgP hgQ
 generalize ((w.alloc (.cells #[.slice a1 n1 c1, .slice a2 n2 c2, .slice a3 n3 c3, .slice a4 n4 c4, .slice a5 n5 c5] 29)).alloc (.cells #[.slice b1 m1 d1, .slice b2 m2 d2, .slice b3 m3 d3, .slice b4 m4 d4, .slice b5 m5 d5] 29)) = w1 at *
 have p0 := HP.out.cell 0 _ rfl
 have q0 := HQ.out.cell 0 _ rfl
 have p1 := HP.out.cell 1 _ rfl
 have q1 := HQ.out.cell 1 _ rfl
 have p2 := HP.out.cell 2 _ rfl
 have q2 := HQ.out.cell 2 _ rfl
 have p3 := HP.out.cell 3 _ rfl
 have q3 := HQ.out.cell 3 _ rfl
 have p4 := HP.out.cell 4 _ rfl
 have q4 := HQ.out.cell 4 _ rfl
 by_cases he1 : S1 = T1
 case neg =>
  have HE1 : Hid (decide (S1 = T1) = false) := decide_eq_false he1
  have HNO : Hid (b = false) := by
   cases b
   ·rfl
   ·exfalso
    have q := HBB.out.1 rfl
    cases q; exact he1 rfl
  clear he1
  go_wp2_with (go_at_call 25; refine (texts16 _ _ _ _ _ _ _ _ _ decide_eq_true_iff _ (by first | exact HM.out.1.1 | exact HM.out.2.1.1 | exact HM.out.2.2.1.1) (by first | exact HN.out.1.1 | exact HN.out.2.1.1 | exact HN.out.2.2.1.1) (by omega) (by omega)).mono ?_; rintro e wx ⟨rfl, hb⟩; replace HB := hide (bel_next HB.out hb); replace HP := hide (HP.out.below hb); replace HQ := hide (HQ.out.below hb); replace HM := hide (HM.out.below hb); replace HN := hide (HN.out.below hb); clear hb; have p0 := HP.out.cell 0 _ rfl; have q0 := HQ.out.cell 0 _ rfl; have p1 := HP.out.cell 1 _ rfl; have q1 := HQ.out.cell 1 _ rfl; have p2 := HP.out.cell 2 _ rfl; have q2 := HQ.out.cell 2 _ rfl; have p3 := HP.out.cell 3 _ rfl; have q3 := HQ.out.cell 3 _ rfl; have p4 := HP.out.cell 4 _ rfl; have q4 := HQ.out.cell 4 _ rfl; first | rw [HE1.out])
  go_ret
  exact ⟨by rw [HNO.out]; rfl, HB.out⟩
 have HE1 : Hid (decide (S1 = T1) = true) := decide_eq_true he1
 by_cases he2 : S2 = T2
 case neg =>
  have HE2 : Hid (decide (S2 = T2) = false) := decide_eq_false he2
  have HNO : Hid (b = false) := by
   cases b
   ·rfl
   ·exfalso
    have q := HBB.out.1 rfl
    cases q; exact he2 rfl
  clear he2
  go_wp2_with (go_at_call 25; refine (texts16 _ _ _ _ _ _ _ _ _ decide_eq_true_iff _ (by first | exact HM.out.1.1 | exact HM.out.2.1.1 | exact HM.out.2.2.1.1) (by first | exact HN.out.1.1 | exact HN.out.2.1.1 | exact HN.out.2.2.1.1) (by omega) (by omega)).mono ?_; rintro e wx ⟨rfl, hb⟩; replace HB := hide (bel_next HB.out hb); replace HP := hide (HP.out.below hb); replace HQ := hide (HQ.out.below hb); replace HM := hide (HM.out.below hb); replace HN := hide (HN.out.below hb); clear hb; have p0 := HP.out.cell 0 _ rfl; have q0 := HQ.out.cell 0 _ rfl; have p1 := HP.out.cell 1 _ rfl; have q1 := HQ.out.cell 1 _ rfl; have p2 := HP.out.cell 2 _ rfl; have q2 := HQ.out.cell 2 _ rfl; have p3 := HP.out.cell 3 _ rfl; have q3 := HQ.out.cell 3 _ rfl; have p4 := HP.out.cell 4 _ rfl; have q4 := HQ.out.cell 4 _ rfl; first | rw [HE1.out] | rw [HE2.out])
  go_ret
  exact ⟨by rw [HNO.out]; rfl, HB.out⟩
 have HE2 : Hid (decide (S2 = T2) = true) := decide_eq_true he2
 by_cases he3 : S3 = T3
 case neg =>
  have HE3 : Hid (decide (S3 = T3) = false) := decide_eq_false he3
  have HNO : Hid (b = false) := by
   cases b
   ·rfl
   ·exfalso
    have q := HBB.out.1 rfl
    cases q; exact he3 rfl
  clear he3
  go_wp2_with (go_at_call 25; refine (texts16 _ _ _ _ _ _ _ _ _ decide_eq_true_iff _ (by first | exact HM.out.1.1 | exact HM.out.2.1.1 | exact HM.out.2.2.1.1) (by first | exact HN.out.1.1 | exact HN.out.2.1.1 | exact HN.out.2.2.1.1) (by omega) (by omega)).mono ?_; rintro e wx ⟨rfl, hb⟩; replace HB := hide (bel_next HB.out hb); replace HP := hide (HP.out.below hb); replace HQ := hide (HQ.out.below hb); replace HM := hide (HM.out.below hb); replace HN := hide (HN.out.below hb); clear hb; have p0 := HP.out.cell 0 _ rfl; have q0 := HQ.out.cell 0 _ rfl; have p1 := HP.out.cell 1 _ rfl; have q1 := HQ.out.cell 1 _ rfl; have p2 := HP.out.cell 2 _ rfl; have q2 := HQ.out.cell 2 _ rfl; have p3 := HP.out.cell 3 _ rfl; have q3 := HQ.out.cell 3 _ rfl; have p4 := HP.out.cell 4 _ rfl; have q4 := HQ.out.cell 4 _ rfl; first | rw [HE1.out] | rw [HE2.out] | rw [HE3.out])
  go_ret
  exact ⟨by rw [HNO.out]; rfl, HB.out⟩
 have HE3 : Hid (decide (S3 = T3) = true) := decide_eq_true he3
 by_cases he4 : n4 = m4
 case neg =>
  have HNO : Hid (b = false) := by
   cases b
   ·rfl
   ·exfalso
    have q := HBB.out.1 rfl
    cases q; exact he4 (by rw [← hk1, ← hk2])
  have hq4 : ((n4 : Int) != (m4 : Int)) = true := by simp; omega
  clear he4
  go_wp2_with (go_at_call 25; refine (texts16 _ _ _ _ _ _ _ _ _ decide_eq_true_iff _ (by first | exact HM.out.1.1 | exact HM.out.2.1.1 | exact HM.out.2.2.1.1) (by first | exact HN.out.1.1 | exact HN.out.2.1.1 | exact HN.out.2.2.1.1) (by omega) (by omega)).mono ?_; rintro e wx ⟨rfl, hb⟩; replace HB := hide (bel_next HB.out hb); replace HP := hide (HP.out.below hb); replace HQ := hide (HQ.out.below hb); replace HM := hide (HM.out.below hb); replace HN := hide (HN.out.below hb); clear hb; have p0 := HP.out.cell 0 _ rfl; have q0 := HQ.out.cell 0 _ rfl; have p1 := HP.out.cell 1 _ rfl; have q1 := HQ.out.cell 1 _ rfl; have p2 := HP.out.cell 2 _ rfl; have q2 := HQ.out.cell 2 _ rfl; have p3 := HP.out.cell 3 _ rfl; have q3 := HQ.out.cell 3 _ rfl; have p4 := HP.out.cell 4 _ rfl; have q4 := HQ.out.cell 4 _ rfl; first | rw [HE1.out] | rw [HE2.out] | rw [HE3.out])
  go_ret
  exact ⟨by rw [HNO.out]; rfl, HB.out⟩
 subst he4
 by_cases he5 : n5 = m5
 case neg =>
  have HNO : Hid (b = false) := by
   cases b
   ·rfl
   ·exfalso
    have q := HBB.out.1 rfl
    cases q; exact he5 (by rw [← ho1, ← ho2])
  have hq5 : ((n5 : Int) != (m5 : Int)) = true := by simp; omega
  clear he5
  go_wp2_with (go_at_call 25; refine (texts16 _ _ _ _ _ _ _ _ _ decide_eq_true_iff _ (by first | exact HM.out.1.1 | exact HM.out.2.1.1 | exact HM.out.2.2.1.1) (by first | exact HN.out.1.1 | exact HN.out.2.1.1 | exact HN.out.2.2.1.1) (by omega) (by omega)).mono ?_; rintro e wx ⟨rfl, hb⟩; replace HB := hide (bel_next HB.out hb); replace HP := hide (HP.out.below hb); replace HQ := hide (HQ.out.below hb); replace HM := hide (HM.out.below hb); replace HN := hide (HN.out.below hb); clear hb; have p0 := HP.out.cell 0 _ rfl; have q0 := HQ.out.cell 0 _ rfl; have p1 := HP.out.cell 1 _ rfl; have q1 := HQ.out.cell 1 _ rfl; have p2 := HP.out.cell 2 _ rfl; have q2 := HQ.out.cell 2 _ rfl; have p3 := HP.out.cell 3 _ rfl; have q3 := HQ.out.cell 3 _ rfl; have p4 := HP.out.cell 4 _ rfl; have q4 := HQ.out.cell 4 _ rfl; first | rw [HE1.out] | rw [HE2.out] | rw [HE3.out])
  go_ret
  exact ⟨by rw [HNO.out]; rfl, HB.out⟩
 subst he5
 go_wp2_with (go_at_call 25; refine (texts16 _ _ _ _ _ _ _ _ _ decide_eq_true_iff _ (by first | exact HM.out.1.1 | exact HM.out.2.1.1 | exact HM.out.2.2.1.1) (by first | exact HN.out.1.1 | exact HN.out.2.1.1 | exact HN.out.2.2.1.1) (by omega) (by omega)).mono ?_; rintro e wx ⟨rfl, hb⟩; replace HB := hide (bel_next HB.out hb); replace HP := hide (HP.out.below hb); replace HQ := hide (HQ.out.below hb); replace HM := hide (HM.out.below hb); replace HN := hide (HN.out.below hb); clear hb; have p0 := HP.out.cell 0 _ rfl; have q0 := HQ.out.cell 0 _ rfl; have p1 := HP.out.cell 1 _ rfl; have q1 := HQ.out.cell 1 _ rfl; have p2 := HP.out.cell 2 _ rfl; have q2 := HQ.out.cell 2 _ rfl; have p3 := HP.out.cell 3 _ rfl; have q3 := HQ.out.cell 3 _ rfl; have p4 := HP.out.cell 4 _ rfl; have q4 := HQ.out.cell 4 _ rfl; first | rw [HE1.out] | rw [HE2.out] | rw [HE3.out])
 go_loopw [5] (fun v wr => ∃ j : Nat, j ≤ n4 ∧ v = .int .i64 j ∧ Hid (K4.take j = L4.take j) ∧ Hid (BX wr gP #[.slice a1 n1 c1, .slice a2 n2 c2, .slice a3 n3 c3, .slice a4 n4 c4, .slice a5 n5 c5] 29) ∧ Hid (BX wr gQ #[.slice b1 m1 d1, .slice b2 m2 d2, .slice b3 m3 d3, .slice b4 n4 d4, .slice b5 n5 d5] 29) ∧ Hid (RuM wr a1 a2 a3 a4 a5 n1 n2 n3 n4 n5 c1 c2 c3 c4 c5 (S1, S2, S3, K4, O5)) ∧ Hid (RuM wr b1 b2 b3 b4 b5 m1 m2 m3 n4 n5 d1 d2 d3 d4 d5 (T1, T2, T3, L4, P5)) ∧ Hid (Below w.heap.size w wr)) (fun v _ => n4 - (RowKit.intOf v).toNat)
 case atStart => exact ⟨0, by omega, rfl, (show _ = _ by simp), HP, HQ, HM, HN, HB⟩
 case round =>
  clear p0 q0 p1 q1 p2 q2 p3 q3 p4 q4
  clear HP HQ HM HN HB
  obtain ⟨j, hj, rfl, HF, HP, HQ, HM, HN, HB⟩ := hrel
  have p0 := HP.out.cell 0 _ rfl
  have q0 := HQ.out.cell 0 _ rfl
  have p1 := HP.out.cell 1 _ rfl
  have q1 := HQ.out.cell 1 _ rfl
  have p2 := HP.out.cell 2 _ rfl
  have q2 := HQ.out.cell 2 _ rfl
  have p3 := HP.out.cell 3 _ rfl
  have q3 := HQ.out.cell 3 _ rfl
  have p4 := HP.out.cell 4 _ rfl
  have q4 := HQ.out.cell 4 _ rfl
  by_cases hlt : j < n4
  ·have hj0 : (0 : Int) ≤ (j : Int) := by omega
   have hj1 : (j : Int) < (n4 : Int) := by omega
   have hx : K4[j]? = some (K4[j]'(by omega)) := List.getElem?_eq_getElem (by omega)
   have hy : L4[j]? = some (L4[j]'(by omega)) := List.getElem?_eq_getElem (by omega)
   generalize K4[j]'(by omega) = x at hx
   generalize L4[j]'(by omega) = y at hy
   obtain ⟨r1, o1, rfl, hcc⟩ := rs_cells HM.out.2.2.2.1.1 (by omega)
   obtain ⟨r2, o2, rfl, hdd⟩ := rs_cells HN.out.2.2.2.1.1 (by omega)
   have c0v := hcc j x hx 0 _ rfl
   have d0v := hdd j y hy 0 _ rfl
   have c1v := hcc j x hx 1 _ rfl
   have d1v := hdd j y hy 1 _ rfl
   have c2v := hcc j x hx 2 _ rfl
   have d2v := hdd j y hy 2 _ rfl
   have c3v := hcc j x hx 3 _ rfl
   have d3v := hdd j y hy 3 _ rfl
   have c4v := hcc j x hx 4 _ rfl
   have d4v := hdd j y hy 4 _ rfl
   simp only [Nat.add_zero] at c0v d0v
   have HX := hide hx
   have HY := hide hy
   clear hx hy hcc hdd
   obtain ⟨x0, xs, x2, x3, x4⟩ := x
   obtain ⟨y0, ys, y2, y3, y4⟩ := y
   simp only at c0v d0v c1v d1v c2v d2v c3v d3v c4v d4v
   by_cases e0 : x0 = y0
   ·subst e0
    by_cases e1 : xs = ys
    ·subst e1
     by_cases e2 : x2 = y2
     ·subst e2
      by_cases e3 : x3 = y3
      ·subst e3
       by_cases e4 : x4 = y4
       ·subst e4
        have HF2 : Hid (K4.take (j + 1) = L4.take (j + 1)) := by unfold Hid; rw [takeG_snoc HX.out, takeG_snoc HY.out, HF.out]
        clear HX HY HF
        go_upto_region 6 with fail
        go_region
        go_wp2
        go_roundw
        case rel => exact ⟨j + 1, by omega, by go_num, HF2, hide (HP.out.below (Below.refl _ wr).drew), hide (HQ.out.below (Below.refl _ wr).drew), hide (HM.out.below (Below.refl _ wr).drew), hide (HN.out.below (Below.refl _ wr).drew), hide HB.out.drew⟩
        case measure => simp [RowKit.intOf] <;> omega
       ·have HNO : Hid (b = false) := by
         cases b
         ·rfl
         ·exfalso
          have q := HBB.out.1 rfl
          have h9 := HX.out
          have q4 : K4 = L4 := by cases q; rfl
          rw [q4, HY.out] at h9
          cases h9
          exact e4 rfl
        clear HX HY HF
        go_upto_region 6 with fail
        go_region
        go_wp2
        go_ret
        exact ⟨by rw [HNO.out]; rfl, HB.out.drew⟩
      ·have HNO : Hid (b = false) := by
        cases b
        ·rfl
        ·exfalso
         have q := HBB.out.1 rfl
         have h9 := HX.out
         have q4 : K4 = L4 := by cases q; rfl
         rw [q4, HY.out] at h9
         cases h9
         exact e3 rfl
       clear HX HY HF
       go_upto_region 6 with fail
       go_region
       go_wp2
       go_ret
       exact ⟨by rw [HNO.out]; rfl, HB.out.drew⟩
     ·have HNO : Hid (b = false) := by
       cases b
       ·rfl
       ·exfalso
        have q := HBB.out.1 rfl
        have h9 := HX.out
        have q4 : K4 = L4 := by cases q; rfl
        rw [q4, HY.out] at h9
        cases h9
        exact e2 rfl
      clear HX HY HF
      go_upto_region 6 with fail
      go_region
      go_wp2
      go_ret
      exact ⟨by rw [HNO.out]; rfl, HB.out.drew⟩
    ·have HNO : Hid (b = false) := by
      cases b
      ·rfl
      ·exfalso
       have q := HBB.out.1 rfl
       have h9 := HX.out
       have q4 : K4 = L4 := by cases q; rfl
       rw [q4, HY.out] at h9
       cases h9
       exact e1 rfl
     clear HX HY HF
     go_upto_region 6 with fail
     go_region
     go_wp2
     go_ret
     exact ⟨by rw [HNO.out]; rfl, HB.out.drew⟩
   ·have HNO : Hid (b = false) := by
     cases b
     ·rfl
     ·exfalso
      have q := HBB.out.1 rfl
      have h9 := HX.out
      have q4 : K4 = L4 := by cases q; rfl
      rw [q4, HY.out] at h9
      cases h9
      exact e0 rfl
    clear HX HY HF
    go_upto_region 6 with fail
    go_region
    go_wp2
    go_ret
    exact ⟨by rw [HNO.out]; rfl, HB.out.drew⟩
  ·obtain rfl : j = n4 := by omega
   have HKL : Hid (K4 = L4) := by
    have e := HF.out
    rw [List.take_of_length_le (by omega), List.take_of_length_le (by omega)] at e
    exact e
   clear HF
   go_wp2
   go_loopw [6] (fun v wr => ∃ i : Nat, i ≤ n5 ∧ v = .int .i64 i ∧ Hid (O5.take i = P5.take i) ∧ Hid (BX wr gP #[.slice a1 n1 c1, .slice a2 n2 c2, .slice a3 n3 c3, .slice a4 j c4, .slice a5 n5 c5] 29) ∧ Hid (BX wr gQ #[.slice b1 m1 d1, .slice b2 m2 d2, .slice b3 m3 d3, .slice b4 j d4, .slice b5 n5 d5] 29) ∧ Hid (RuM wr a1 a2 a3 a4 a5 n1 n2 n3 j n5 c1 c2 c3 c4 c5 (S1, S2, S3, K4, O5)) ∧ Hid (RuM wr b1 b2 b3 b4 b5 m1 m2 m3 j n5 d1 d2 d3 d4 d5 (T1, T2, T3, L4, P5)) ∧ Hid (Below w.heap.size w wr)) (fun v _ => n5 - (RowKit.intOf v).toNat)
   case atStart => exact ⟨0, by omega, rfl, (show _ = _ by simp), HP, HQ, HM, HN, HB⟩
   case round =>
    clear p0 q0 p1 q1 p2 q2 p3 q3 p4 q4
    clear HP HQ HM HN HB
    rename_i j4
    obtain ⟨j, hj, rfl, HF, HP, HQ, HM, HN, HB⟩ := hrel
    have p0 := HP.out.cell 0 _ rfl
    have q0 := HQ.out.cell 0 _ rfl
    have p1 := HP.out.cell 1 _ rfl
    have q1 := HQ.out.cell 1 _ rfl
    have p2 := HP.out.cell 2 _ rfl
    have q2 := HQ.out.cell 2 _ rfl
    have p3 := HP.out.cell 3 _ rfl
    have q3 := HQ.out.cell 3 _ rfl
    have p4 := HP.out.cell 4 _ rfl
    have q4 := HQ.out.cell 4 _ rfl
    by_cases hlt : j < n5
    ·have hj0 : (0 : Int) ≤ (j : Int) := by omega
     have hj1 : (j : Int) < (n5 : Int) := by omega
     obtain ⟨r1, o1, rfl⟩ := HM.out.2.2.2.2.1.addr (by omega)
     obtain ⟨r2, o2, rfl⟩ := HN.out.2.2.2.2.1.addr (by omega)
     obtain ⟨⟨nm, dx⟩, p, c', hx, hr1, _, c0, c1⟩ := HM.out.2.2.2.2.1.op j hlt
     obtain ⟨⟨nm', dy⟩, p', c'', hy, hr2, _, f0, f1⟩ := HN.out.2.2.2.2.1.op j hlt
     simp only at c0 c1 f0 f1 hr1 hr2
     have hz1 : dx.length ≤ 1000 := HD1.out _ (List.mem_of_getElem? hx)
     have hz2 : dy.length ≤ 1000 := HD2.out _ (List.mem_of_getElem? hy)
     have HX := hide hx
     have HY := hide hy
     have HR1 := hide hr1
     have HR2 := hide hr2
     have hq := eqK nm nm'
     clear hx hy hr1 hr2
     by_cases e1 : nm = nm'
     ·rw [decide_eq_true e1] at hq
      by_cases e2 : dx = dy
      ·have HDO : Hid (∀ W, Below wr.heap.size wr W → Calls Tryz.prog 26 #[.slice p dx.length c', .slice p' dy.length c''] W fun e w' => e = .returned (.bool true) ∧ Below W.heap.size W w') := fun W hW => Does16 true p dx.length c' dx p' dy.length c'' dy ⟨fun _ => e2, fun _ => rfl⟩ W (HR1.out.below hW) (HR2.out.below hW) (by omega) (by omega)
       have HF2 : Hid (O5.take (j + 1) = P5.take (j + 1)) := by unfold Hid; rw [takeG_snoc HX.out, takeG_snoc HY.out, HF.out, e1, e2]
       clear e1 e2
       go_upto_region 11 with fail
       refine wp_region_held_drew (S := fun W => Below wr.heap.size wr W) (by kernel_rfl) ((Below.refl _ wr).drew) (fun hS0 => ?_)
       refine tkJ 0 72 hS0 ?_; simp only [ly]
       refine tkI 1 73 ?v2 rfl rfl hS0 ?hy2 ?_
       case hy2 => (intro W hW; have e0 := bcell hW p4; have e1 := bcell hW q4; have e2 := bcell hW c0; have e3 := bcell hW c1; have e4 := bcell hW f0; have e5 := bcell hW f1; clear hW; go_simp; try rfl)
       simp only [ly]
       refine tkJ 2 74 hS0 ?_; simp only [ly]
       refine tkJ 3 75 hS0 ?_; simp only [ly]
       refine tkJ 4 76 hS0 ?_; simp only [ly]
       refine tkI 5 77 ?v6 rfl rfl hS0 ?hy6 ?_
       case hy6 => (intro W hW; have e0 := bcell hW p4; have e1 := bcell hW q4; have e2 := bcell hW c0; have e3 := bcell hW c1; have e4 := bcell hW f0; have e5 := bcell hW f1; clear hW; go_simp; try rfl)
       simp only [ly]
       refine tkJ 6 78 hS0 ?_; simp only [ly]
       refine tkI 7 79 ?v8 rfl rfl hS0 ?hy8 ?_
       case hy8 => (intro W hW; have e0 := bcell hW p4; have e1 := bcell hW q4; have e2 := bcell hW c0; have e3 := bcell hW c1; have e4 := bcell hW f0; have e5 := bcell hW f1; clear hW; go_simp; try rfl)
       simp only [ly]
       refine tkJ 8 80 hS0 ?_; simp only [ly]
       refine tkJ 9 81 hS0 ?_; simp only [ly]
       refine tkJ 10 82 hS0 ?_; simp only [ly]
       refine tkI 11 83 ?v12 rfl rfl hS0 ?hy12 ?_
       case hy12 => (intro W hW; have e0 := bcell hW p4; have e1 := bcell hW q4; have e2 := bcell hW c0; have e3 := bcell hW c1; have e4 := bcell hW f0; have e5 := bcell hW f1; clear hW; go_simp; try rfl)
       simp only [ly]
       refine tkJ 12 84 hS0 ?_; simp only [ly]
       refine tkJ 13 85 hS0 ?_; simp only [ly]
       refine tkJ 14 86 hS0 ?_; simp only [ly]
       refine tkI 15 87 ?v16 rfl rfl hS0 ?hy16 ?_
       case hy16 => (intro W hW; have e0 := bcell hW p4; have e1 := bcell hW q4; have e2 := bcell hW c0; have e3 := bcell hW c1; have e4 := bcell hW f0; have e5 := bcell hW f1; clear hW; go_simp; try rfl)
       simp only [ly]
       refine tkJ 16 88 hS0 ?_; simp only [ly]
       refine tkJ 17 89 hS0 ?_; simp only [ly]
       refine tkJ 18 90 hS0 ?_; simp only [ly]
       refine tkI 19 91 ?v20 rfl rfl hS0 ?hy20 ?_
       case hy20 => (intro W hW; have e0 := bcell hW p4; have e1 := bcell hW q4; have e2 := bcell hW c0; have e3 := bcell hW c1; have e4 := bcell hW f0; have e5 := bcell hW f1; clear hW; go_simp; try rfl)
       simp only [ly]
       refine tkJ 20 92 hS0 ?_; simp only [ly]
       refine tkI 21 93 ?v22 rfl rfl hS0 ?hy22 ?_
       case hy22 => (intro W hW; have e0 := bcell hW p4; have e1 := bcell hW q4; have e2 := bcell hW c0; have e3 := bcell hW c1; have e4 := bcell hW f0; have e5 := bcell hW f1; clear hW; go_simp; try rfl)
       simp only [ly]
       refine tkJ 22 94 hS0 ?_; simp only [ly]
       refine tkJ 23 95 hS0 ?_; simp only [ly]
       refine tkJ 24 96 hS0 ?_; simp only [ly]
       refine tkI 25 97 ?v26 rfl rfl hS0 ?hy26 ?_
       case hy26 => (intro W hW; have e0 := bcell hW p4; have e1 := bcell hW q4; have e2 := bcell hW c0; have e3 := bcell hW c1; have e4 := bcell hW f0; have e5 := bcell hW f1; clear hW; go_simp; try rfl)
       simp only [ly]
       refine wpAnyH_ready (rs := [26]) (by kernel_rfl) (by simp) ?_
       refine AllReadyH.cons rfl (fun K hK => ?_) AllReadyH.nil
       go_simp
       refine (HDO.out _ hS0).mono ?_
       rintro e wy ⟨rfl, hb⟩
       refine hK.out _ _ ?hs27 (fun hS1 => ?_)
       case hs27 => exact bel_next hS0 hb
       clear hK K hb
       try simp only [ly]
       refine tkJ 27 99 hS1 ?_; simp only [ly]
       refine tkJ 28 100 hS1 ?_; simp only [ly]
       refine wpAnyH_done (by kernel_rfl) ?_ _
       go_wp2
       go_roundw
       case rel => exact ⟨j + 1, by omega, by go_num, HF2, hide (HP.out.below hS1), hide (HQ.out.below hS1), hide (HM.out.below hS1), hide (HN.out.below hS1), hide (bel_next HB.out hS1)⟩
       case measure => simp [RowKit.intOf] <;> omega
      ·have HDO : Hid (∀ W, Below wr.heap.size wr W → Calls Tryz.prog 26 #[.slice p dx.length c', .slice p' dy.length c''] W fun e w' => e = .returned (.bool false) ∧ Below W.heap.size W w') := fun W hW => Does16 false p dx.length c' dx p' dy.length c'' dy ⟨fun h => absurd h (by decide), fun h => absurd h e2⟩ W (HR1.out.below hW) (HR2.out.below hW) (by omega) (by omega)
       have HNO : Hid (b = false) := by
        cases b
        ·rfl
        ·exfalso
         have q := HBB.out.1 rfl
         have h9 := HX.out
         have q5 : O5 = P5 := by cases q; rfl
         rw [q5, HY.out] at h9
         cases h9
         exact e2 rfl
       clear e1 e2
       go_upto_region 11 with fail
       refine wp_region_held_drew (S := fun W => Below wr.heap.size wr W) (by kernel_rfl) ((Below.refl _ wr).drew) (fun hS0 => ?_)
       refine tkJ 0 72 hS0 ?_; simp only [ly]
       refine tkI 1 73 ?v31 rfl rfl hS0 ?hy31 ?_
       case hy31 => (intro W hW; have e0 := bcell hW p4; have e1 := bcell hW q4; have e2 := bcell hW c0; have e3 := bcell hW c1; have e4 := bcell hW f0; have e5 := bcell hW f1; clear hW; go_simp; try rfl)
       simp only [ly]
       refine tkJ 2 74 hS0 ?_; simp only [ly]
       refine tkJ 3 75 hS0 ?_; simp only [ly]
       refine tkJ 4 76 hS0 ?_; simp only [ly]
       refine tkI 5 77 ?v35 rfl rfl hS0 ?hy35 ?_
       case hy35 => (intro W hW; have e0 := bcell hW p4; have e1 := bcell hW q4; have e2 := bcell hW c0; have e3 := bcell hW c1; have e4 := bcell hW f0; have e5 := bcell hW f1; clear hW; go_simp; try rfl)
       simp only [ly]
       refine tkJ 6 78 hS0 ?_; simp only [ly]
       refine tkI 7 79 ?v37 rfl rfl hS0 ?hy37 ?_
       case hy37 => (intro W hW; have e0 := bcell hW p4; have e1 := bcell hW q4; have e2 := bcell hW c0; have e3 := bcell hW c1; have e4 := bcell hW f0; have e5 := bcell hW f1; clear hW; go_simp; try rfl)
       simp only [ly]
       refine tkJ 8 80 hS0 ?_; simp only [ly]
       refine tkJ 9 81 hS0 ?_; simp only [ly]
       refine tkJ 10 82 hS0 ?_; simp only [ly]
       refine tkI 11 83 ?v41 rfl rfl hS0 ?hy41 ?_
       case hy41 => (intro W hW; have e0 := bcell hW p4; have e1 := bcell hW q4; have e2 := bcell hW c0; have e3 := bcell hW c1; have e4 := bcell hW f0; have e5 := bcell hW f1; clear hW; go_simp; try rfl)
       simp only [ly]
       refine tkJ 12 84 hS0 ?_; simp only [ly]
       refine tkJ 13 85 hS0 ?_; simp only [ly]
       refine tkJ 14 86 hS0 ?_; simp only [ly]
       refine tkI 15 87 ?v45 rfl rfl hS0 ?hy45 ?_
       case hy45 => (intro W hW; have e0 := bcell hW p4; have e1 := bcell hW q4; have e2 := bcell hW c0; have e3 := bcell hW c1; have e4 := bcell hW f0; have e5 := bcell hW f1; clear hW; go_simp; try rfl)
       simp only [ly]
       refine tkJ 16 88 hS0 ?_; simp only [ly]
       refine tkJ 17 89 hS0 ?_; simp only [ly]
       refine tkJ 18 90 hS0 ?_; simp only [ly]
       refine tkI 19 91 ?v49 rfl rfl hS0 ?hy49 ?_
       case hy49 => (intro W hW; have e0 := bcell hW p4; have e1 := bcell hW q4; have e2 := bcell hW c0; have e3 := bcell hW c1; have e4 := bcell hW f0; have e5 := bcell hW f1; clear hW; go_simp; try rfl)
       simp only [ly]
       refine tkJ 20 92 hS0 ?_; simp only [ly]
       refine tkI 21 93 ?v51 rfl rfl hS0 ?hy51 ?_
       case hy51 => (intro W hW; have e0 := bcell hW p4; have e1 := bcell hW q4; have e2 := bcell hW c0; have e3 := bcell hW c1; have e4 := bcell hW f0; have e5 := bcell hW f1; clear hW; go_simp; try rfl)
       simp only [ly]
       refine tkJ 22 94 hS0 ?_; simp only [ly]
       refine tkJ 23 95 hS0 ?_; simp only [ly]
       refine tkJ 24 96 hS0 ?_; simp only [ly]
       refine tkI 25 97 ?v55 rfl rfl hS0 ?hy55 ?_
       case hy55 => (intro W hW; have e0 := bcell hW p4; have e1 := bcell hW q4; have e2 := bcell hW c0; have e3 := bcell hW c1; have e4 := bcell hW f0; have e5 := bcell hW f1; clear hW; go_simp; try rfl)
       simp only [ly]
       refine wpAnyH_ready (rs := [26]) (by kernel_rfl) (by simp) ?_
       refine AllReadyH.cons rfl (fun K hK => ?_) AllReadyH.nil
       go_simp
       refine (HDO.out _ hS0).mono ?_
       rintro e wy ⟨rfl, hb⟩
       refine hK.out _ _ ?hs56 (fun hS1 => ?_)
       case hs56 => exact bel_next hS0 hb
       clear hK K hb
       try simp only [ly]
       refine tkJ 27 99 hS1 ?_; simp only [ly]
       refine tkJ 28 100 hS1 ?_; simp only [ly]
       refine wpAnyH_done (by kernel_rfl) ?_ _
       go_wp2
       go_ret
       exact ⟨by rw [HNO.out]; rfl, bel_next HB.out hS1⟩
     ·rw [decide_eq_false e1] at hq
      have HNO : Hid (b = false) := by
       cases b
       ·rfl
       ·exfalso
        have q := HBB.out.1 rfl
        have h9 := HX.out
        have q5 : O5 = P5 := by cases q; rfl
        rw [q5, HY.out] at h9
        cases h9
        exact e1 rfl
      clear e1
      go_upto_region 11 with fail
      refine wp_region_held_drew (S := fun W => Below wr.heap.size wr W) (by kernel_rfl) ((Below.refl _ wr).drew) (fun hS0 => ?_)
      refine tkJ 0 72 hS0 ?_; simp only [ly]
      refine tkI 1 73 ?v60 rfl rfl hS0 ?hy60 ?_
      case hy60 => (intro W hW; have e0 := bcell hW p4; have e1 := bcell hW q4; have e2 := bcell hW c0; have e3 := bcell hW c1; have e4 := bcell hW f0; have e5 := bcell hW f1; clear hW; go_simp; try rfl)
      simp only [ly]
      refine tkJ 2 74 hS0 ?_; simp only [ly]
      refine tkJ 3 75 hS0 ?_; simp only [ly]
      refine tkJ 4 76 hS0 ?_; simp only [ly]
      refine tkI 5 77 ?v64 rfl rfl hS0 ?hy64 ?_
      case hy64 => (intro W hW; have e0 := bcell hW p4; have e1 := bcell hW q4; have e2 := bcell hW c0; have e3 := bcell hW c1; have e4 := bcell hW f0; have e5 := bcell hW f1; clear hW; go_simp; try rfl)
      simp only [ly]
      refine tkJ 6 78 hS0 ?_; simp only [ly]
      refine tkI 7 79 ?v66 rfl rfl hS0 ?hy66 ?_
      case hy66 => (intro W hW; have e0 := bcell hW p4; have e1 := bcell hW q4; have e2 := bcell hW c0; have e3 := bcell hW c1; have e4 := bcell hW f0; have e5 := bcell hW f1; clear hW; go_simp; try rfl)
      simp only [ly]
      refine tkJ 8 80 hS0 ?_; simp only [ly]
      refine tkJ 9 81 hS0 ?_; simp only [ly]
      refine tkJ 10 82 hS0 ?_; simp only [ly]
      refine tkI 11 83 ?v70 rfl rfl hS0 ?hy70 ?_
      case hy70 => (intro W hW; have e0 := bcell hW p4; have e1 := bcell hW q4; have e2 := bcell hW c0; have e3 := bcell hW c1; have e4 := bcell hW f0; have e5 := bcell hW f1; clear hW; go_simp; try rfl)
      simp only [ly]
      refine tkJ 12 84 hS0 ?_; simp only [ly]
      refine tkJ 13 85 hS0 ?_; simp only [ly]
      refine tkM 14 86 hS0 ?_; simp only [ly]
      refine tkM 15 87 hS0 ?_; simp only [ly]
      refine tkM 16 88 hS0 ?_; simp only [ly]
      refine tkM 17 89 hS0 ?_; simp only [ly]
      refine tkM 18 90 hS0 ?_; simp only [ly]
      refine tkM 19 91 hS0 ?_; simp only [ly]
      refine tkM 20 92 hS0 ?_; simp only [ly]
      refine tkM 21 93 hS0 ?_; simp only [ly]
      refine tkM 22 94 hS0 ?_; simp only [ly]
      refine tkM 23 95 hS0 ?_; simp only [ly]
      refine tkM 24 96 hS0 ?_; simp only [ly]
      refine tkM 25 97 hS0 ?_; simp only [ly]
      refine tkM 26 98 hS0 ?_; simp only [ly]
      refine tkM 27 99 hS0 ?_; simp only [ly]
      refine tkJ 28 100 hS0 ?_; simp only [ly]
      refine wpAnyH_done (by kernel_rfl) ?_ _
      go_wp2
      go_ret
      exact ⟨by rw [HNO.out]; rfl, bel_next HB.out hS0⟩
    ·obtain rfl : j = n5 := by omega
     have HOP : Hid (O5 = P5) := by
      have e := HF.out
      rw [List.take_of_length_le (by omega), List.take_of_length_le (by omega)] at e
      exact e
     have HYE : Hid (b = true) := HBB.out.2 (by rw [of_decide_eq_true HE1.out, of_decide_eq_true HE2.out, of_decide_eq_true HE3.out, HKL.out, HOP.out])
     clear HF
     go_wp2
     go_ret
     exact ⟨by rw [HYE.out]; rfl, HB.out⟩
end Go.Proofs.YtomppblgalepjaaGreatDoor

