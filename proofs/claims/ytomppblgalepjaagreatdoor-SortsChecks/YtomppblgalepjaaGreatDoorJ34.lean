/- Texts of this claim, joined: T6, T7. -/
import Derived.Test.YtomppblgalepjaaGreatDoorJ32
import Derived.Test.YtomppblgalepjaaGreatDoorJ33
/- Which rules there may be: the document's (layer 16). -/
namespace Go.Proofs.YtomppblgalepjaaGreatDoor
open Go.RowKit Go.Lib
set_option linter.unusedVariables false
theorem all_next {α : Type} {f : α → Bool} {l : List α} {i : Nat} {x : α} (h : (l.take i).all f = true) (hx : l[i]? = some x) (hf : f x = true) : (l.take (i + 1)).all f = true := by
 rw [List.take_add_one, hx, Option.toList_some, List.all_append, h]
 simp [hf]
theorem all_bad {α : Type} {f : α → Bool} {l : List α} {i : Nat} {x : α} (hx : l[i]? = some x) (hf : f x = false) : l.all f = false := by
 rw [List.all_eq_false]
 exact ⟨x, List.mem_of_getElem? hx, by rw [hf]; decide⟩
theorem may_is {S1 S2 S3 : List ByteArray} {K4 : List Cl} {O5 : List Op} {n1 n2 n3 n4 n5 : Nat} (h1 : S1.length = n1) (h2 : S2.length = n2) (h3 : S3.length = n3) (h4 : K4.length = n4) (h5 : O5.length = n5) : mayR (S1, S2, S3, K4, O5) = (decide (n1 ≤ 6) && decide (n2 ≤ 4) && decide (n3 ≤ 3) && decide (n5 ≤ 16) && decide (n4 ≤ 12) && unlB (allR (S1, S2, S3, K4, O5)) && flB K4 && K4.all (clB n1 n2) && O5.all (fun o => opB n1 n2 n3 o.2)) := by
 subst h1 h2 h3 h4 h5
 rfl
set_option maxRecDepth 2000 in
set_option maxHeartbeats 8000000 in
theorem May16 {a1 a2 a3 a4 a5 : Option Addr} {n1 n2 n3 n4 n5 c1 c2 c3 c4 c5 : Nat} {S1 S2 S3 : List ByteArray} {K4 : List Cl} {O5 : List Op} (w : World) (hM : RuM w a1 a2 a3 a4 a5 n1 n2 n3 n4 n5 c1 c2 c3 c4 c5 (S1, S2, S3, K4, O5)) (h1 : n1 ≤ 100 ∧ n2 ≤ 100 ∧ n3 ≤ 100 ∧ n4 ≤ 1000 ∧ n5 ≤ 100) (hd1 : ∀ o ∈ O5, o.2.length ≤ 1000) (hsz : ∀ x ∈ allR (S1, S2, S3, K4, O5), x.size ≤ 10000) : Calls Tryz.prog 11 #[.agg #[.slice a1 n1 c1, .slice a2 n2 c2, .slice a3 n3 c3, .slice a4 n4 c4, .slice a5 n5 c5]] w fun e w' => e = .returned (.bool (mayR (S1, S2, S3, K4, O5))) ∧ Below w.heap.size w w' := by
 have e0 := bel1 w (.cells #[.slice a1 n1 c1, .slice a2 n2 c2, .slice a3 n3 c3, .slice a4 n4 c4, .slice a5 n5 c5] 29)
 have HP : Hid (BX (w.alloc (.cells #[.slice a1 n1 c1, .slice a2 n2 c2, .slice a3 n3 c3, .slice a4 n4 c4, .slice a5 n5 c5] 29)) w.heap.size #[.slice a1 n1 c1, .slice a2 n2 c2, .slice a3 n3 c3, .slice a4 n4 c4, .slice a5 n5 c5] 29) := BX.new w _ rfl _ _
 have HM := hide (hM.below e0)
 have HB := hide e0
 have HD1 := hide hd1
 have HSZ := hide hsz
 obtain ⟨g1, g2, g3, g4, g5⟩ := h1
 have l1 : S1.length = n1 := hM.1.1.1
 have l2 : S2.length = n2 := hM.2.1.1.1
 have l3 : S3.length = n3 := hM.2.2.1.1.1
 have l4 : K4.length = n4 := hM.2.2.2.1.1.1
 have l5 : O5.length = n5 := SF.len hM.2.2.2.2.1
 have HIS := hide (may_is l1 l2 l3 l4 l5)
 have HLA : Hid ((allR (S1, S2, S3, K4, O5)).length ≤ 1000) := by
  unfold Hid allR
  simp only [List.length_append, List.length_map]
  omega
 have HL4 := hide l4
 have HL5 := hide l5
 clear e0 hM hd1 hsz l1 l2 l3 l4 l5
 go_enter Tryz.func11, Tryz.ntmps11
 go_upto_region 1 with fail
 obtain ⟨gP, hgP⟩ : ∃ g, w.heap.size = g := ⟨_, rfl⟩
 rw [hgP] at HP
 try rw [hgP]
 clear hgP
 generalize (w.alloc (.cells #[.slice a1 n1 c1, .slice a2 n2 c2, .slice a3 n3 c3, .slice a4 n4 c4, .slice a5 n5 c5] 29)) = w1 at *
 have p0 := HP.out.cell 0 _ rfl
 have p1 := HP.out.cell 1 _ rfl
 have p2 := HP.out.cell 2 _ rfl
 have p3 := HP.out.cell 3 _ rfl
 have p4 := HP.out.cell 4 _ rfl
 by_cases xn1 : 6 < n1
 case pos =>
  have zn1 : (n1 : Int) > 6 := by omega
  have HK : Hid (mayR (S1, S2, S3, K4, O5) = false) := by unfold Hid; rw [HIS.out, decide_eq_false (show ¬ n1 ≤ 6 by omega)]; simp
  clear xn1
  go_wp2
  go_ret
  exact ⟨by rw [HK.out]; rfl, HB.out⟩
 have zn1 : ¬ ((n1 : Int) > 6) := by omega
 have yn1 : n1 ≤ 6 := by omega
 by_cases xn2 : 4 < n2
 case pos =>
  have zn2 : (n2 : Int) > 4 := by omega
  have HK : Hid (mayR (S1, S2, S3, K4, O5) = false) := by unfold Hid; rw [HIS.out, decide_eq_false (show ¬ n2 ≤ 4 by omega)]; simp
  clear xn2
  go_wp2
  go_ret
  exact ⟨by rw [HK.out]; rfl, HB.out⟩
 have zn2 : ¬ ((n2 : Int) > 4) := by omega
 have yn2 : n2 ≤ 4 := by omega
 by_cases xn3 : 3 < n3
 case pos =>
  have zn3 : (n3 : Int) > 3 := by omega
  have HK : Hid (mayR (S1, S2, S3, K4, O5) = false) := by unfold Hid; rw [HIS.out, decide_eq_false (show ¬ n3 ≤ 3 by omega)]; simp
  clear xn3
  go_wp2
  go_ret
  exact ⟨by rw [HK.out]; rfl, HB.out⟩
 have zn3 : ¬ ((n3 : Int) > 3) := by omega
 have yn3 : n3 ≤ 3 := by omega
 by_cases xn5 : 16 < n5
 case pos =>
  have zn5 : (n5 : Int) > 16 := by omega
  have HK : Hid (mayR (S1, S2, S3, K4, O5) = false) := by unfold Hid; rw [HIS.out, decide_eq_false (show ¬ n5 ≤ 16 by omega)]; simp
  clear xn5
  go_wp2
  go_ret
  exact ⟨by rw [HK.out]; rfl, HB.out⟩
 have zn5 : ¬ ((n5 : Int) > 16) := by omega
 have yn5 : n5 ≤ 16 := by omega
 by_cases xn4 : 12 < n4
 case pos =>
  have zn4 : (n4 : Int) > 12 := by omega
  have HK : Hid (mayR (S1, S2, S3, K4, O5) = false) := by unfold Hid; rw [HIS.out, decide_eq_false (show ¬ n4 ≤ 12 by omega)]; simp
  clear xn4
  go_wp2
  go_ret
  exact ⟨by rw [HK.out]; rfl, HB.out⟩
 have zn4 : ¬ ((n4 : Int) > 12) := by omega
 have yn4 : n4 ≤ 12 := by omega
 rcases hun : unlB (allR (S1, S2, S3, K4, O5)) with _ | _
 case false =>
  have HUN := hide hun
  have HK : Hid (mayR (S1, S2, S3, K4, O5) = false) := by unfold Hid; rw [HIS.out, hun]; simp
  clear hun
  go_wp2_with (first | (go_at_call 30; refine (All16 _ HM.out (by omega) (by omega) (by omega) (by omega)).mono ?_; rintro e wx ⟨vA, rfl, ho, hb⟩; have hop : ∃ p c, vA = .slice p (allR (S1, S2, S3, K4, O5)).length c ∧ RS encSt 1 wx p (allR (S1, S2, S3, K4, O5)).length (allR (S1, S2, S3, K4, O5)) ∧ CP p (allR (S1, S2, S3, K4, O5)).length c := OwnR.open encSt_len ho; clear ho; obtain ⟨pA, cA, hvA, hrA, hcA⟩ := hop; subst hvA; have HRA := hide hrA; have HCA := hide hcA; clear hrA hcA; replace HB := hide (bel_next HB.out hb); replace HP := hide (HP.out.below hb); replace HM := hide (HM.out.below hb); clear hb; have p0 := HP.out.cell 0 _ rfl; have p1 := HP.out.cell 1 _ rfl; have p2 := HP.out.cell 2 _ rfl; have p3 := HP.out.cell 3 _ rfl; have p4 := HP.out.cell 4 _ rfl) | (go_at_call 29; refine (Unlike16 _ _ _ _ _ HRA.out HLA.out HCA.out.1 HSZ.out).mono ?_; rintro e wx ⟨rfl, hb⟩; replace HB := hide (bel_next HB.out hb); replace HP := hide (HP.out.below hb); replace HM := hide (HM.out.below hb); clear hb; have p0 := HP.out.cell 0 _ rfl; have p1 := HP.out.cell 1 _ rfl; have p2 := HP.out.cell 2 _ rfl; have p3 := HP.out.cell 3 _ rfl; have p4 := HP.out.cell 4 _ rfl; rw [HUN.out]))
  go_ret
  exact ⟨by rw [HK.out]; rfl, HB.out⟩
 rcases hfl : flB K4 with _ | _
 case false =>
  have HUN := hide hun
  have HFL := hide hfl
  have HK : Hid (mayR (S1, S2, S3, K4, O5) = false) := by unfold Hid; rw [HIS.out, hfl]; simp
  clear hun hfl
  go_wp2_with (first | (go_at_call 30; refine (All16 _ HM.out (by omega) (by omega) (by omega) (by omega)).mono ?_; rintro e wx ⟨vA, rfl, ho, hb⟩; have hop : ∃ p c, vA = .slice p (allR (S1, S2, S3, K4, O5)).length c ∧ RS encSt 1 wx p (allR (S1, S2, S3, K4, O5)).length (allR (S1, S2, S3, K4, O5)) ∧ CP p (allR (S1, S2, S3, K4, O5)).length c := OwnR.open encSt_len ho; clear ho; obtain ⟨pA, cA, hvA, hrA, hcA⟩ := hop; subst hvA; have HRA := hide hrA; have HCA := hide hcA; clear hrA hcA; replace HB := hide (bel_next HB.out hb); replace HP := hide (HP.out.below hb); replace HM := hide (HM.out.below hb); clear hb; have p0 := HP.out.cell 0 _ rfl; have p1 := HP.out.cell 1 _ rfl; have p2 := HP.out.cell 2 _ rfl; have p3 := HP.out.cell 3 _ rfl; have p4 := HP.out.cell 4 _ rfl) | (go_at_call 29; refine (Unlike16 _ _ _ _ _ HRA.out HLA.out HCA.out.1 HSZ.out).mono ?_; rintro e wx ⟨rfl, hb⟩; replace HB := hide (bel_next HB.out hb); replace HP := hide (HP.out.below hb); replace HM := hide (HM.out.below hb); clear hb; have p0 := HP.out.cell 0 _ rfl; have p1 := HP.out.cell 1 _ rfl; have p2 := HP.out.cell 2 _ rfl; have p3 := HP.out.cell 3 _ rfl; have p4 := HP.out.cell 4 _ rfl; rw [HUN.out]) | (go_at_call 24; refine (floors16 _ _ _ _ _ HM.out.2.2.2.1.1 (by omega)).mono ?_; rintro e wx ⟨rfl, hb⟩; replace HB := hide (bel_next HB.out hb); replace HP := hide (HP.out.below hb); replace HM := hide (HM.out.below hb); clear hb; have p0 := HP.out.cell 0 _ rfl; have p1 := HP.out.cell 1 _ rfl; have p2 := HP.out.cell 2 _ rfl; have p3 := HP.out.cell 3 _ rfl; have p4 := HP.out.cell 4 _ rfl; rw [HFL.out]))
  go_ret
  exact ⟨by rw [HK.out]; rfl, HB.out⟩
 have HUN := hide hun
 have HFL := hide hfl
 have HIS2 : Hid (mayR (S1, S2, S3, K4, O5) = (K4.all (clB n1 n2) && O5.all (fun o => opB n1 n2 n3 o.2))) := by
  unfold Hid
  rw [HIS.out, hun, hfl, decide_eq_true yn1, decide_eq_true yn2, decide_eq_true yn3, decide_eq_true yn5, decide_eq_true yn4]
  simp
 clear hun hfl HIS
 go_wp2_with (first | (go_at_call 30; refine (All16 _ HM.out (by omega) (by omega) (by omega) (by omega)).mono ?_; rintro e wx ⟨vA, rfl, ho, hb⟩; have hop : ∃ p c, vA = .slice p (allR (S1, S2, S3, K4, O5)).length c ∧ RS encSt 1 wx p (allR (S1, S2, S3, K4, O5)).length (allR (S1, S2, S3, K4, O5)) ∧ CP p (allR (S1, S2, S3, K4, O5)).length c := OwnR.open encSt_len ho; clear ho; obtain ⟨pA, cA, hvA, hrA, hcA⟩ := hop; subst hvA; have HRA := hide hrA; have HCA := hide hcA; clear hrA hcA; replace HB := hide (bel_next HB.out hb); replace HP := hide (HP.out.below hb); replace HM := hide (HM.out.below hb); clear hb; have p0 := HP.out.cell 0 _ rfl; have p1 := HP.out.cell 1 _ rfl; have p2 := HP.out.cell 2 _ rfl; have p3 := HP.out.cell 3 _ rfl; have p4 := HP.out.cell 4 _ rfl) | (go_at_call 29; refine (Unlike16 _ _ _ _ _ HRA.out HLA.out HCA.out.1 HSZ.out).mono ?_; rintro e wx ⟨rfl, hb⟩; replace HB := hide (bel_next HB.out hb); replace HP := hide (HP.out.below hb); replace HM := hide (HM.out.below hb); clear hb; have p0 := HP.out.cell 0 _ rfl; have p1 := HP.out.cell 1 _ rfl; have p2 := HP.out.cell 2 _ rfl; have p3 := HP.out.cell 3 _ rfl; have p4 := HP.out.cell 4 _ rfl; rw [HUN.out]) | (go_at_call 24; refine (floors16 _ _ _ _ _ HM.out.2.2.2.1.1 (by omega)).mono ?_; rintro e wx ⟨rfl, hb⟩; replace HB := hide (bel_next HB.out hb); replace HP := hide (HP.out.below hb); replace HM := hide (HM.out.below hb); clear hb; have p0 := HP.out.cell 0 _ rfl; have p1 := HP.out.cell 1 _ rfl; have p2 := HP.out.cell 2 _ rfl; have p3 := HP.out.cell 3 _ rfl; have p4 := HP.out.cell 4 _ rfl; rw [HFL.out]))
 clear HUN HFL
 go_loopw [3] (fun v wr => ∃ j : Nat, j ≤ n4 ∧ v = .int .i64 j ∧ Hid ((K4.take j).all (clB n1 n2) = true) ∧ Hid (BX wr gP #[.slice a1 n1 c1, .slice a2 n2 c2, .slice a3 n3 c3, .slice a4 n4 c4, .slice a5 n5 c5] 29) ∧ Hid (RuM wr a1 a2 a3 a4 a5 n1 n2 n3 n4 n5 c1 c2 c3 c4 c5 (S1, S2, S3, K4, O5)) ∧ Hid (Below w.heap.size w wr)) (fun v _ => n4 - (RowKit.intOf v).toNat)
 case atStart => exact ⟨0, by omega, rfl, rfl, HP, HM, HB⟩
 case round =>
  clear p0 p1 p2 p3 p4
  clear HP HM HB
  obtain ⟨j, hj, rfl, HF, HP, HM, HB⟩ := hrel
  have p0 := HP.out.cell 0 _ rfl
  have p1 := HP.out.cell 1 _ rfl
  have p2 := HP.out.cell 2 _ rfl
  have p3 := HP.out.cell 3 _ rfl
  have p4 := HP.out.cell 4 _ rfl
  by_cases hlt : j < n4
  ·have hj0 : (0 : Int) ≤ (j : Int) := by omega
   have hj1 : (j : Int) < (n4 : Int) := by omega
   have hl4 : K4.length = n4 := HL4.out
   have hx : K4[j]? = some (K4[j]'(by omega)) := List.getElem?_eq_getElem (by omega)
   generalize K4[j]'(by omega) = x at hx
   obtain ⟨r1, o1, rfl, hcc⟩ := rs_cells HM.out.2.2.2.1.1 (by omega)
   have c0 := hcc j x hx 0 _ rfl
   have c1 := hcc j x hx 1 _ rfl
   have c2 := hcc j x hx 2 _ rfl
   have c3 := hcc j x hx 3 _ rfl
   have c4 := hcc j x hx 4 _ rfl
   simp only [Nat.add_zero] at c0
   obtain ⟨x0, xs, x2, x3, x4⟩ := x
   simp only at c0 c1 c2 c3 c4
   clear hl4 hcc
   rcases hcv : clB n1 n2 (x0, xs, x2, x3, x4) with _ | _
   ·have HCV := hide hcv
    have HK : Hid (mayR (S1, S2, S3, K4, O5) = false) := by unfold Hid; rw [HIS2.out, all_bad hx hcv]; rfl
    clear hcv hx
    go_upto_region 6 with fail
    refine wp_region_held_drew (S := fun W => Below wr.heap.size wr W) (by kernel_rfl) ((Below.refl _ wr).drew) (fun hS0 => ?_)
    refine tkI 0 52 ?v1 rfl rfl hS0 ?hy1 ?_
    case hy1 => (intro W hW; have e0 := bcell hW p0; have e1 := bcell hW p1; have e2 := bcell hW p2; have e3 := bcell hW p3; have e4 := bcell hW p4; have e5 := bcell hW c0; have e6 := bcell hW c1; have e7 := bcell hW c2; have e8 := bcell hW c3; have e9 := bcell hW c4; clear hW; go_simp; try rfl)
    simp only [ly]
    refine tkJ 1 53 hS0 ?_; simp only [ly]
    refine tkI 2 54 ?v3 rfl rfl hS0 ?hy3 ?_
    case hy3 => (intro W hW; have e0 := bcell hW p0; have e1 := bcell hW p1; have e2 := bcell hW p2; have e3 := bcell hW p3; have e4 := bcell hW p4; have e5 := bcell hW c0; have e6 := bcell hW c1; have e7 := bcell hW c2; have e8 := bcell hW c3; have e9 := bcell hW c4; clear hW; go_simp; try rfl)
    simp only [ly]
    refine tkJ 3 55 hS0 ?_; simp only [ly]
    refine tkJ 4 56 hS0 ?_; simp only [ly]
    refine tkI 5 57 ?v6 rfl rfl hS0 ?hy6 ?_
    case hy6 => (intro W hW; have e0 := bcell hW p0; have e1 := bcell hW p1; have e2 := bcell hW p2; have e3 := bcell hW p3; have e4 := bcell hW p4; have e5 := bcell hW c0; have e6 := bcell hW c1; have e7 := bcell hW c2; have e8 := bcell hW c3; have e9 := bcell hW c4; clear hW; go_simp; try rfl)
    simp only [ly]
    refine wpAnyH_ready (rs := [6]) (by kernel_rfl) (by simp) ?_
    refine AllReadyH.cons rfl (fun K hK => ?_) AllReadyH.nil
    go_simp
    refine (Clause16 _ _ _ _ _ _).mono ?_
    rintro e wz ⟨rfl, hb⟩
    rw [HCV.out]
    refine hK.out _ _ ?hs7 (fun hS1 => ?_)
    case hs7 => exact bel_next hS0 hb
    clear hK K hb
    try simp only [ly]
    refine tkJ 7 59 hS1 ?_; simp only [ly]
    refine wpAnyH_done (by kernel_rfl) ?_ _
    go_wp2
    go_ret
    exact ⟨by rw [HK.out]; rfl, bel_next HB.out hS1⟩
   ·have HCV := hide hcv
    have HF2 := hide (all_next HF.out hx hcv)
    clear hcv hx
    go_upto_region 6 with fail
    refine wp_region_held_drew (S := fun W => Below wr.heap.size wr W) (by kernel_rfl) ((Below.refl _ wr).drew) (fun hS0 => ?_)
    refine tkI 0 52 ?v9 rfl rfl hS0 ?hy9 ?_
    case hy9 => (intro W hW; have e0 := bcell hW p0; have e1 := bcell hW p1; have e2 := bcell hW p2; have e3 := bcell hW p3; have e4 := bcell hW p4; have e5 := bcell hW c0; have e6 := bcell hW c1; have e7 := bcell hW c2; have e8 := bcell hW c3; have e9 := bcell hW c4; clear hW; go_simp; try rfl)
    simp only [ly]
    refine tkJ 1 53 hS0 ?_; simp only [ly]
    refine tkI 2 54 ?v11 rfl rfl hS0 ?hy11 ?_
    case hy11 => (intro W hW; have e0 := bcell hW p0; have e1 := bcell hW p1; have e2 := bcell hW p2; have e3 := bcell hW p3; have e4 := bcell hW p4; have e5 := bcell hW c0; have e6 := bcell hW c1; have e7 := bcell hW c2; have e8 := bcell hW c3; have e9 := bcell hW c4; clear hW; go_simp; try rfl)
    simp only [ly]
    refine tkJ 3 55 hS0 ?_; simp only [ly]
    refine tkJ 4 56 hS0 ?_; simp only [ly]
    refine tkI 5 57 ?v14 rfl rfl hS0 ?hy14 ?_
    case hy14 => (intro W hW; have e0 := bcell hW p0; have e1 := bcell hW p1; have e2 := bcell hW p2; have e3 := bcell hW p3; have e4 := bcell hW p4; have e5 := bcell hW c0; have e6 := bcell hW c1; have e7 := bcell hW c2; have e8 := bcell hW c3; have e9 := bcell hW c4; clear hW; go_simp; try rfl)
    simp only [ly]
    refine wpAnyH_ready (rs := [6]) (by kernel_rfl) (by simp) ?_
    refine AllReadyH.cons rfl (fun K hK => ?_) AllReadyH.nil
    go_simp
    refine (Clause16 _ _ _ _ _ _).mono ?_
    rintro e wz ⟨rfl, hb⟩
    rw [HCV.out]
    refine hK.out _ _ ?hs15 (fun hS1 => ?_)
    case hs15 => exact bel_next hS0 hb
    clear hK K hb
    try simp only [ly]
    refine tkJ 7 59 hS1 ?_; simp only [ly]
    refine wpAnyH_done (by kernel_rfl) ?_ _
    go_wp2
    go_roundw
    case rel => exact ⟨j + 1, by omega, by go_num, HF2, hide (HP.out.below hS1), hide (HM.out.below hS1), hide (bel_next HB.out hS1)⟩
    case measure => simp [RowKit.intOf] <;> omega
  ·obtain rfl : j = n4 := by omega
   have HIS3 : Hid (mayR (S1, S2, S3, K4, O5) = O5.all (fun o => opB n1 n2 n3 o.2)) := by
    have e := HF.out
    rw [List.take_of_length_le (by rw [HL4.out]; exact Nat.le_refl _)] at e
    unfold Hid
    rw [HIS2.out, e]
    rfl
   clear HF
   go_wp2
   go_loopw [4] (fun v wr => ∃ i : Nat, i ≤ n5 ∧ v = .int .i64 i ∧ Hid ((O5.take i).all (fun o => opB n1 n2 n3 o.2) = true) ∧ Hid (BX wr gP #[.slice a1 n1 c1, .slice a2 n2 c2, .slice a3 n3 c3, .slice a4 j c4, .slice a5 n5 c5] 29) ∧ Hid (RuM wr a1 a2 a3 a4 a5 n1 n2 n3 j n5 c1 c2 c3 c4 c5 (S1, S2, S3, K4, O5)) ∧ Hid (Below w.heap.size w wr)) (fun v _ => n5 - (RowKit.intOf v).toNat)
   case atStart => exact ⟨0, by omega, rfl, rfl, HP, HM, HB⟩
   case round =>
    clear p0 p1 p2 p3 p4
    clear HP HM HB
    rename_i j4
    obtain ⟨j, hj, rfl, HF, HP, HM, HB⟩ := hrel
    have p0 := HP.out.cell 0 _ rfl
    have p1 := HP.out.cell 1 _ rfl
    have p2 := HP.out.cell 2 _ rfl
    have p3 := HP.out.cell 3 _ rfl
    have p4 := HP.out.cell 4 _ rfl
    by_cases hlt : j < n5
    ·have hj0 : (0 : Int) ≤ (j : Int) := by omega
     have hj1 : (j : Int) < (n5 : Int) := by omega
     obtain ⟨r1, o1, rfl⟩ := HM.out.2.2.2.2.1.addr (by omega)
     obtain ⟨⟨nm, dx⟩, p, c', hx, hr1, _, c0, c1⟩ := HM.out.2.2.2.2.1.op j hlt
     simp only at c0 c1 hr1
     have HZ1 : Hid (dx.length ≤ 1000) := HD1.out _ (List.mem_of_getElem? hx)
     have HR1 := hide hr1
     clear hr1
     rcases hcv : opB n1 n2 n3 dx with _ | _
     ·have HCV := hide hcv
      have HK : Hid (mayR (S1, S2, S3, K4, O5) = false) := by unfold Hid; rw [HIS3.out]; exact all_bad hx hcv
      clear hcv hx
      go_upto_region 11 with fail
      refine wp_region_held_drew (S := fun W => Below wr.heap.size wr W) (by kernel_rfl) ((Below.refl _ wr).drew) (fun hS0 => ?_)
      refine tkI 0 67 ?v17 rfl rfl hS0 ?hy17 ?_
      case hy17 => (intro W hW; have e0 := bcell hW p0; have e1 := bcell hW p1; have e2 := bcell hW p2; have e3 := bcell hW p3; have e4 := bcell hW p4; have e5 := bcell hW c0; have e6 := bcell hW c1; clear hW; go_simp; try rfl)
      simp only [ly]
      refine tkJ 1 68 hS0 ?_; simp only [ly]
      refine tkI 2 69 ?v19 rfl rfl hS0 ?hy19 ?_
      case hy19 => (intro W hW; have e0 := bcell hW p0; have e1 := bcell hW p1; have e2 := bcell hW p2; have e3 := bcell hW p3; have e4 := bcell hW p4; have e5 := bcell hW c0; have e6 := bcell hW c1; clear hW; go_simp; try rfl)
      simp only [ly]
      refine tkJ 3 70 hS0 ?_; simp only [ly]
      refine tkJ 4 71 hS0 ?_; simp only [ly]
      refine tkI 5 72 ?v22 rfl rfl hS0 ?hy22 ?_
      case hy22 => (intro W hW; have e0 := bcell hW p0; have e1 := bcell hW p1; have e2 := bcell hW p2; have e3 := bcell hW p3; have e4 := bcell hW p4; have e5 := bcell hW c0; have e6 := bcell hW c1; clear hW; go_simp; try rfl)
      simp only [ly]
      refine wpAnyH_ready (rs := [6]) (by kernel_rfl) (by simp) ?_
      refine AllReadyH.cons rfl (fun K hK => ?_) AllReadyH.nil
      go_simp
      refine (Oper16 _ _ _ _ _ _ (HR1.out.below hS0) HZ1.out).mono ?_
      rintro e wz ⟨rfl, hb⟩
      rw [HCV.out]
      refine hK.out _ _ ?hs23 (fun hS1 => ?_)
      case hs23 => exact bel_next hS0 hb
      clear hK K hb
      try simp only [ly]
      refine tkJ 7 74 hS1 ?_; simp only [ly]
      refine wpAnyH_done (by kernel_rfl) ?_ _
      go_wp2
      go_ret
      exact ⟨by rw [HK.out]; rfl, bel_next HB.out hS1⟩
     ·have HCV := hide hcv
      have HF2 : Hid ((O5.take (j + 1)).all (fun o => opB n1 n2 n3 o.2) = true) := all_next HF.out hx hcv
      clear hcv hx
      go_upto_region 11 with fail
      refine wp_region_held_drew (S := fun W => Below wr.heap.size wr W) (by kernel_rfl) ((Below.refl _ wr).drew) (fun hS0 => ?_)
      refine tkI 0 67 ?v25 rfl rfl hS0 ?hy25 ?_
      case hy25 => (intro W hW; have e0 := bcell hW p0; have e1 := bcell hW p1; have e2 := bcell hW p2; have e3 := bcell hW p3; have e4 := bcell hW p4; have e5 := bcell hW c0; have e6 := bcell hW c1; clear hW; go_simp; try rfl)
      simp only [ly]
      refine tkJ 1 68 hS0 ?_; simp only [ly]
      refine tkI 2 69 ?v27 rfl rfl hS0 ?hy27 ?_
      case hy27 => (intro W hW; have e0 := bcell hW p0; have e1 := bcell hW p1; have e2 := bcell hW p2; have e3 := bcell hW p3; have e4 := bcell hW p4; have e5 := bcell hW c0; have e6 := bcell hW c1; clear hW; go_simp; try rfl)
      simp only [ly]
      refine tkJ 3 70 hS0 ?_; simp only [ly]
      refine tkJ 4 71 hS0 ?_; simp only [ly]
      refine tkI 5 72 ?v30 rfl rfl hS0 ?hy30 ?_
      case hy30 => (intro W hW; have e0 := bcell hW p0; have e1 := bcell hW p1; have e2 := bcell hW p2; have e3 := bcell hW p3; have e4 := bcell hW p4; have e5 := bcell hW c0; have e6 := bcell hW c1; clear hW; go_simp; try rfl)
      simp only [ly]
      refine wpAnyH_ready (rs := [6]) (by kernel_rfl) (by simp) ?_
      refine AllReadyH.cons rfl (fun K hK => ?_) AllReadyH.nil
      go_simp
      refine (Oper16 _ _ _ _ _ _ (HR1.out.below hS0) HZ1.out).mono ?_
      rintro e wz ⟨rfl, hb⟩
      rw [HCV.out]
      refine hK.out _ _ ?hs31 (fun hS1 => ?_)
      case hs31 => exact bel_next hS0 hb
      clear hK K hb
      try simp only [ly]
      refine tkJ 7 74 hS1 ?_; simp only [ly]
      refine wpAnyH_done (by kernel_rfl) ?_ _
      go_wp2
      go_roundw
      case rel => exact ⟨j + 1, by omega, by go_num, HF2, hide (HP.out.below hS1), hide (HM.out.below hS1), hide (bel_next HB.out hS1)⟩
      case measure => simp [RowKit.intOf] <;> omega
    ·obtain rfl : j = n5 := by omega
     have HK : Hid (mayR (S1, S2, S3, K4, O5) = true) := by
      have e := HF.out
      rw [List.take_of_length_le (by rw [HL5.out]; exact Nat.le_refl _)] at e
      unfold Hid
      rw [HIS3.out, e]
     clear HF
     go_wp2
     go_ret
     exact ⟨by rw [HK.out]; rfl, HB.out⟩
end Go.Proofs.YtomppblgalepjaaGreatDoor

/- Rules that are being made (layer 16): five rows of the call's own beside the row of names seen, in the box of the rules. -/
namespace Go.Proofs.YtomppblgalepjaaGreatDoor
open Go.RowKit Go.Lib
set_option linter.unusedVariables false
def ROy : Rf Op := fun w r o F => ROp w r o F ∧ ∀ g, F g → ∃ C fr, w.heap[g]? = some (.cells C 60 fr)
theorem ROy.st : StF ROy := by
 refine ⟨fun w w' r x F h hk => ⟨ROp.st.1 w w' r x F h.1 hk, fun g hg => ?_⟩, fun w r x F h => ROp.st.2 w r x F h.1⟩
 obtain ⟨C, fr, hc⟩ := h.2 g hg
 exact ⟨C, fr, by rw [hk g hg]; exact hc⟩
abbrev OwnO (N : Nat) (w : World) (v : Value) (l : List Op) : Prop := OwnF 2 ROy 56 N w v l
abbrev OwnC (N : Nat) (w : World) (v : Value) (l : List Cl) : Prop := OwnR encCl 5 43 N w v l
theorem tySO : (9 : TypeId) ≠ 56 := by decide
theorem tySC : (9 : TypeId) ≠ 43 := by decide
theorem tySD : (9 : TypeId) ≠ 60 := by decide
theorem tyCO : (43 : TypeId) ≠ 56 := by decide
theorem tyCD : (43 : TypeId) ≠ 60 := by decide
theorem OwnO.keep {N : Nat} {w w' : World} {v : Value} {l : List Op} (h : OwnO N w v l) (hk : ∀ g : Nat, (∃ (C : Array Value) (fr : Nat × Nat), w.heap[g]? = some (.cells C 56 fr)) ∨ (∃ (C : Array Value) (fr : Nat × Nat), w.heap[g]? = some (.cells C 60 fr)) → w'.heap[g]? = w.heap[g]?) : OwnO N w' v l := by
 obtain ⟨rows, h1, h2, h3⟩ := h
 refine ⟨rows, ⟨h1.1, ?_⟩, h2, fun i r x hr hx => ?_⟩
 ·rcases h1.2 with hn | ⟨g, cap, cur, hv, hb, hg, rest⟩
  ·exact .inl hn
  ·exact .inr ⟨g, cap, cur, hv, hb, by rw [hk g (.inl ⟨_, _, hg⟩)]; exact hg, rest⟩
 ·obtain ⟨F, hF, hf⟩ := h3 i r x hr hx
  have q : ∀ g, F g → w'.heap[g]? = w.heap[g]? := fun g hg => hk g (.inr (hF.2 g hg))
  exact ⟨F, ROy.st.1 _ _ _ _ _ hF q, hf.keep q⟩
theorem OwnO.grown {α : Type} {enc : α → List Value} {k : Nat} {T : TypeId} {N N' : Nat} {w w' : World} {v r : Value} {l : List Op} {m : List α} (h : OwnO N w v l) (hr : OwnR enc k T N' w r m) (hg : w.grownBy w' r.ownBlock) (t1 : T ≠ 56) (t2 : T ≠ 60) : OwnO N w' v l := by
 refine OwnO.keep h (fun g hc => hg.block g ?_ (fun e => ?_))
 ·rcases hc with ⟨C, fr, hc⟩ | ⟨C, fr, hc⟩ <;> exact (Array.getElem?_eq_some_iff.1 hc).1
 ·obtain ⟨_, C', fr', hc'⟩ := hr.at e.symm
  rcases hc with ⟨C, fr, hc⟩ | ⟨C, fr, hc⟩
  ·rw [hc] at hc'; cases hc'; exact t1 rfl
  ·rw [hc] at hc'; cases hc'; exact t2 rfl
end Go.Proofs.YtomppblgalepjaaGreatDoor

