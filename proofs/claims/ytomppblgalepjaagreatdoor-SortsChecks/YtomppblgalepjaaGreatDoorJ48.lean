/- Texts of this claim, joined: T9, OX, T8. -/
import Derived.Test.YtomppblgalepjaaGreatDoorJ34
import Derived.Test.YtomppblgalepjaaGreatDoorJ4
import Derived.Test.YtomppblgalepjaaGreatDoorJ44
import Derived.Test.YtomppblgalepjaaGreatDoorJ46
import Derived.Test.YtomppblgalepjaaGreatDoorJ47
/- Whether rules, and lines, are not too great (layer 16). -/
namespace Go.Proofs.YtomppblgalepjaaGreatDoor
open Go.RowKit Go.Lib
set_option linter.unusedVariables false
def smS (x : ByteArray) : Bool := decide (x.size ≤ 100)
def smO (o : Op) : Bool := decide (o.2.length ≤ 20)
def lgtR (r : Ru) : Bool := decide (r.1.length ≤ 20) && decide (r.2.1.length ≤ 20) && decide (r.2.2.1.length ≤ 20) && decide (r.2.2.2.1.length ≤ 30) && decide (r.2.2.2.2.length ≤ 30) && (allR r).all smS && r.2.2.2.2.all smO
theorem lgt_is {S1 S2 S3 : List ByteArray} {K4 : List Cl} {O5 : List Op} {n1 n2 n3 n4 n5 : Nat} (h1 : S1.length = n1) (h2 : S2.length = n2) (h3 : S3.length = n3) (h4 : K4.length = n4) (h5 : O5.length = n5) : lgtR (S1, S2, S3, K4, O5) = (decide (n1 ≤ 20) && decide (n2 ≤ 20) && decide (n3 ≤ 20) && decide (n4 ≤ 30) && decide (n5 ≤ 30) && (allR (S1, S2, S3, K4, O5)).all smS && O5.all smO) := by
 subst h1 h2 h3 h4 h5
 rfl
set_option maxRecDepth 2000 in
set_option maxHeartbeats 8000000 in
theorem Light16 {a1 a2 a3 a4 a5 : Option Addr} {n1 n2 n3 n4 n5 c1 c2 c3 c4 c5 : Nat} {S1 S2 S3 : List ByteArray} {K4 : List Cl} {O5 : List Op} (w : World) (hM : RuM w a1 a2 a3 a4 a5 n1 n2 n3 n4 n5 c1 c2 c3 c4 c5 (S1, S2, S3, K4, O5)) : Calls Tryz.prog 12 #[.agg #[.slice a1 n1 c1, .slice a2 n2 c2, .slice a3 n3 c3, .slice a4 n4 c4, .slice a5 n5 c5]] w fun e w' => e = .returned (.bool (lgtR (S1, S2, S3, K4, O5))) ∧ Below w.heap.size w w' := by
 have e0 := bel1 w (.cells #[.slice a1 n1 c1, .slice a2 n2 c2, .slice a3 n3 c3, .slice a4 n4 c4, .slice a5 n5 c5] 29)
 have HP : Hid (BX (w.alloc (.cells #[.slice a1 n1 c1, .slice a2 n2 c2, .slice a3 n3 c3, .slice a4 n4 c4, .slice a5 n5 c5] 29)) w.heap.size #[.slice a1 n1 c1, .slice a2 n2 c2, .slice a3 n3 c3, .slice a4 n4 c4, .slice a5 n5 c5] 29) := BX.new w _ rfl _ _
 have HM := hide (hM.below e0)
 have HB := hide e0
 have l1 : S1.length = n1 := hM.1.1.1
 have l2 : S2.length = n2 := hM.2.1.1.1
 have l3 : S3.length = n3 := hM.2.2.1.1.1
 have l4 : K4.length = n4 := hM.2.2.2.1.1.1
 have l5 : O5.length = n5 := SF.len hM.2.2.2.2.1
 have HIS := hide (lgt_is l1 l2 l3 l4 l5)
 have HL5 := hide l5
 have HLA : Hid (n1 ≤ 20 ∧ n2 ≤ 20 ∧ n3 ≤ 20 ∧ n5 ≤ 30 → (allR (S1, S2, S3, K4, O5)).length ≤ 1000) := by
  rintro ⟨g1, g2, g3, g5⟩
  unfold allR
  simp only [List.length_append, List.length_map]
  omega
 clear e0 hM l1 l2 l3 l4 l5
 go_enter Tryz.func12, Tryz.ntmps12
 go_upto_region 1 with fail
 obtain ⟨gP, hgP⟩ : ∃ g, w.heap.size = g := ⟨_, rfl⟩
 rw [hgP] at HP
 try rw [hgP]
 clear hgP
 generalize (w.alloc (.cells #[.slice a1 n1 c1, .slice a2 n2 c2, .slice a3 n3 c3, .slice a4 n4 c4, .slice a5 n5 c5] 29)) = w1 at *
 have p0 := HP.out.cell 0 _ rfl
 have p1 := HP.out.cell 1 _ rfl
 have p2 := HP.out.cell 2 _ rfl
 have p3 := HP.out.cell 3 _ rfl
 have p4 := HP.out.cell 4 _ rfl
 by_cases xn1 : 20 < n1
 case pos =>
  have zn1 : (n1 : Int) > 20 := by omega
  have HK : Hid (lgtR (S1, S2, S3, K4, O5) = false) := by unfold Hid; rw [HIS.out, decide_eq_false (show ¬ n1 ≤ 20 by omega)]; simp
  clear xn1
  go_wp2
  go_ret
  exact ⟨by rw [HK.out]; rfl, HB.out⟩
 have zn1 : ¬ ((n1 : Int) > 20) := by omega
 have yn1 : n1 ≤ 20 := by omega
 by_cases xn2 : 20 < n2
 case pos =>
  have zn2 : (n2 : Int) > 20 := by omega
  have HK : Hid (lgtR (S1, S2, S3, K4, O5) = false) := by unfold Hid; rw [HIS.out, decide_eq_false (show ¬ n2 ≤ 20 by omega)]; simp
  clear xn2
  go_wp2
  go_ret
  exact ⟨by rw [HK.out]; rfl, HB.out⟩
 have zn2 : ¬ ((n2 : Int) > 20) := by omega
 have yn2 : n2 ≤ 20 := by omega
 by_cases xn3 : 20 < n3
 case pos =>
  have zn3 : (n3 : Int) > 20 := by omega
  have HK : Hid (lgtR (S1, S2, S3, K4, O5) = false) := by unfold Hid; rw [HIS.out, decide_eq_false (show ¬ n3 ≤ 20 by omega)]; simp
  clear xn3
  go_wp2
  go_ret
  exact ⟨by rw [HK.out]; rfl, HB.out⟩
 have zn3 : ¬ ((n3 : Int) > 20) := by omega
 have yn3 : n3 ≤ 20 := by omega
 by_cases xn4 : 30 < n4
 case pos =>
  have zn4 : (n4 : Int) > 30 := by omega
  have HK : Hid (lgtR (S1, S2, S3, K4, O5) = false) := by unfold Hid; rw [HIS.out, decide_eq_false (show ¬ n4 ≤ 30 by omega)]; simp
  clear xn4
  go_wp2
  go_ret
  exact ⟨by rw [HK.out]; rfl, HB.out⟩
 have zn4 : ¬ ((n4 : Int) > 30) := by omega
 have yn4 : n4 ≤ 30 := by omega
 by_cases xn5 : 30 < n5
 case pos =>
  have zn5 : (n5 : Int) > 30 := by omega
  have HK : Hid (lgtR (S1, S2, S3, K4, O5) = false) := by unfold Hid; rw [HIS.out, decide_eq_false (show ¬ n5 ≤ 30 by omega)]; simp
  clear xn5
  go_wp2
  go_ret
  exact ⟨by rw [HK.out]; rfl, HB.out⟩
 have zn5 : ¬ ((n5 : Int) > 30) := by omega
 have yn5 : n5 ≤ 30 := by omega
 have HLB := hide (HLA.out ⟨yn1, yn2, yn3, yn5⟩)
 have HIS2 : Hid (lgtR (S1, S2, S3, K4, O5) = ((allR (S1, S2, S3, K4, O5)).all smS && O5.all smO)) := by
  unfold Hid
  rw [HIS.out, decide_eq_true yn1, decide_eq_true yn2, decide_eq_true yn3, decide_eq_true yn4, decide_eq_true yn5]
  simp
 clear HIS HLA
 go_wp2_with (go_at_call 30; refine (All16 _ HM.out (by omega) (by omega) (by omega) (by omega)).mono ?_; rintro e wx ⟨vA, rfl, ho, hb⟩; have hop : ∃ p c, vA = .slice p (allR (S1, S2, S3, K4, O5)).length c ∧ RS encSt 1 wx p (allR (S1, S2, S3, K4, O5)).length (allR (S1, S2, S3, K4, O5)) ∧ CP p (allR (S1, S2, S3, K4, O5)).length c := OwnR.open encSt_len ho; clear ho; obtain ⟨pA, cA, hvA, hrA, hcA⟩ := hop; subst hvA; have HRA := hide hrA; have HCA := hide hcA; clear hrA hcA; replace HB := hide (bel_next HB.out hb); replace HP := hide (HP.out.below hb); replace HM := hide (HM.out.below hb); clear hb; have p0 := HP.out.cell 0 _ rfl; have p1 := HP.out.cell 1 _ rfl; have p2 := HP.out.cell 2 _ rfl; have p3 := HP.out.cell 3 _ rfl; have p4 := HP.out.cell 4 _ rfl)
 obtain ⟨nA, hnA⟩ : ∃ m, (allR (S1, S2, S3, K4, O5)).length = m := ⟨_, rfl⟩
 have hlA : nA ≤ 1000 := by rw [← hnA]; exact HLB.out
 rw [hnA] at HRA ⊢
 have HNA := hide hnA
 clear hnA HCA HLB
 go_loopw [4] (fun v wr => ∃ j : Nat, j ≤ nA ∧ v = .int .i64 j ∧ Hid (((allR (S1, S2, S3, K4, O5)).take j).all smS = true) ∧ Hid (RS encSt 1 wr pA nA (allR (S1, S2, S3, K4, O5))) ∧ Hid (BX wr gP #[.slice a1 n1 c1, .slice a2 n2 c2, .slice a3 n3 c3, .slice a4 n4 c4, .slice a5 n5 c5] 29) ∧ Hid (RuM wr a1 a2 a3 a4 a5 n1 n2 n3 n4 n5 c1 c2 c3 c4 c5 (S1, S2, S3, K4, O5)) ∧ Hid (Below w.heap.size w wr)) (fun v _ => nA - (RowKit.intOf v).toNat)
 case atStart => exact ⟨0, by omega, rfl, rfl, HRA, HP, HM, HB⟩
 case round =>
  clear p0 p1 p2 p3 p4
  clear HP HM HB HRA
  obtain ⟨j, hj, rfl, HF, HRA, HP, HM, HB⟩ := hrel
  have p0 := HP.out.cell 0 _ rfl
  have p1 := HP.out.cell 1 _ rfl
  have p2 := HP.out.cell 2 _ rfl
  have p3 := HP.out.cell 3 _ rfl
  have p4 := HP.out.cell 4 _ rfl
  by_cases hlt : j < nA
  ·have hj0 : (0 : Int) ≤ (j : Int) := by omega
   have hj1 : (j : Int) < (nA : Int) := by omega
   have hlx : j < (allR (S1, S2, S3, K4, O5)).length := by rw [HNA.out]; exact hlt
   have hx : (allR (S1, S2, S3, K4, O5))[j]? = some ((allR (S1, S2, S3, K4, O5))[j]'hlx) := List.getElem?_eq_getElem hlx
   generalize (allR (S1, S2, S3, K4, O5))[j]'hlx = x at hx
   obtain ⟨r1, o1, rfl, hcc⟩ := rs_cells HRA.out (by omega)
   have c0 := hcc j x hx 0 _ rfl
   simp only [Nat.mul_one, Nat.add_zero] at c0
   clear hcc
   by_cases h1 : x.size ≤ 100
   ·have HF2 := hide (all_next HF.out hx (decide_eq_true h1))
    obtain ⟨nx, hnx⟩ : ∃ m, x.size = m := ⟨_, rfl⟩
    rw [hnx] at h1
    have h1i : ¬ ((nx : Int) > 100) := by omega
    clear hx h1
    go_wp2
    go_roundw
    case rel => exact ⟨j + 1, by omega, by go_num, HF2, HRA, HP, HM, HB⟩
    case measure => simp [RowKit.intOf] <;> omega
   ·have HK : Hid (lgtR (S1, S2, S3, K4, O5) = false) := by unfold Hid; rw [HIS2.out, all_bad hx (decide_eq_false h1)]; rfl
    obtain ⟨nx, hnx⟩ : ∃ m, x.size = m := ⟨_, rfl⟩
    rw [hnx] at h1
    have h1i : (nx : Int) > 100 := by omega
    clear hx h1
    go_wp2
    go_ret
    exact ⟨by rw [HK.out]; rfl, HB.out⟩
  ·obtain rfl : j = nA := by omega
   have HIS3 : Hid (lgtR (S1, S2, S3, K4, O5) = O5.all smO) := by
    have e := HF.out
    rw [List.take_of_length_le (by rw [HNA.out]; exact Nat.le_refl _)] at e
    unfold Hid
    rw [HIS2.out, e]
    rfl
   clear HF HRA HNA
   go_wp2
   go_loopw [5] (fun v wr => ∃ i : Nat, i ≤ n5 ∧ v = .int .i64 i ∧ Hid ((O5.take i).all smO = true) ∧ Hid (BX wr gP #[.slice a1 n1 c1, .slice a2 n2 c2, .slice a3 n3 c3, .slice a4 n4 c4, .slice a5 n5 c5] 29) ∧ Hid (RuM wr a1 a2 a3 a4 a5 n1 n2 n3 n4 n5 c1 c2 c3 c4 c5 (S1, S2, S3, K4, O5)) ∧ Hid (Below w.heap.size w wr)) (fun v _ => n5 - (RowKit.intOf v).toNat)
   case atStart => exact ⟨0, by omega, rfl, rfl, HP, HM, HB⟩
   case round =>
    clear p0 p1 p2 p3 p4
    clear HP HM HB
    rename_i j4
    obtain ⟨j, hj, rfl, HF, HP, HM, HB⟩ := hrel
    have p0 := HP.out.cell 0 _ rfl
    have p1 := HP.out.cell 1 _ rfl
    have p2 := HP.out.cell 2 _ rfl
    have p3 := HP.out.cell 3 _ rfl
    have p4 := HP.out.cell 4 _ rfl
    by_cases hlt : j < n5
    ·have hj0 : (0 : Int) ≤ (j : Int) := by omega
     have hj1 : (j : Int) < (n5 : Int) := by omega
     obtain ⟨r1, o1, rfl⟩ := HM.out.2.2.2.2.1.addr (by omega)
     obtain ⟨⟨nm, dx⟩, p, c', hx, _, _, c0, c1⟩ := HM.out.2.2.2.2.1.op j hlt
     simp only at c0 c1
     by_cases h1 : dx.length ≤ 20
     ·have HF2 : Hid ((O5.take (j + 1)).all smO = true) := all_next HF.out hx (decide_eq_true h1)
      obtain ⟨nx, hnx⟩ : ∃ m, dx.length = m := ⟨_, rfl⟩
      rw [hnx] at h1 c1
      have h1i : ¬ ((nx : Int) > 20) := by omega
      clear hx h1 hnx
      go_wp2
      go_roundw
      case rel => exact ⟨j + 1, by omega, by go_num, HF2, HP, HM, HB⟩
      case measure => simp [RowKit.intOf] <;> omega
     ·have HK : Hid (lgtR (S1, S2, S3, K4, O5) = false) := by unfold Hid; rw [HIS3.out]; exact all_bad hx (decide_eq_false h1)
      obtain ⟨nx, hnx⟩ : ∃ m, dx.length = m := ⟨_, rfl⟩
      rw [hnx] at h1 c1
      have h1i : (nx : Int) > 20 := by omega
      clear hx h1 hnx
      go_wp2
      go_ret
      exact ⟨by rw [HK.out]; rfl, HB.out⟩
    ·obtain rfl : j = n5 := by omega
     have HK : Hid (lgtR (S1, S2, S3, K4, O5) = true) := by
      have e := HF.out
      rw [List.take_of_length_le (by rw [HL5.out]; exact Nat.le_refl _)] at e
      unfold Hid
      rw [HIS3.out, e]
     clear HF
     go_wp2
     go_ret
     exact ⟨by rw [HK.out]; rfl, HB.out⟩
end Go.Proofs.YtomppblgalepjaaGreatDoor

/- What light rules are (layer 16). -/
namespace Go.Proofs.YtomppblgalepjaaGreatDoor
open Go.RowKit Go.Lib
set_option linter.unusedVariables false
theorem lgt_use {r : Ru} (h : lgtR r = true) : r.1.length ≤ 20 ∧ r.2.1.length ≤ 20 ∧ r.2.2.1.length ≤ 20 ∧ r.2.2.2.1.length ≤ 30 ∧ r.2.2.2.2.length ≤ 30 ∧ (∀ x ∈ allR r, x.size ≤ 100) ∧ ∀ o ∈ r.2.2.2.2, o.2.length ≤ 20 := by
 unfold lgtR at h
 simp only [Bool.and_eq_true, decide_eq_true_iff, List.all_eq_true] at h
 obtain ⟨⟨⟨⟨⟨⟨h1, h2⟩, h3⟩, h4⟩, h5⟩, h6⟩, h7⟩ := h
 refine ⟨h1, h2, h3, h4, h5, fun x hx => ?_, fun o ho => ?_⟩
 ·have q := h6 x hx; unfold smS at q; exact decide_eq_true_iff.1 q
 ·have q := h7 o ho; unfold smO at q; exact decide_eq_true_iff.1 q
end Go.Proofs.YtomppblgalepjaaGreatDoor

/- Lines and rules that came in (layer 16). -/
namespace Go.Proofs.YtomppblgalepjaaGreatDoor
open Go.RowKit Go.ChangeShapes Go.WideShapes
set_option linter.unusedVariables false
theorem l5D {α : Type} (l : List α) (h : l.length = 5) : ∃ a0 a1 a2 a3 a4, l = [a0, a1, a2, a3, a4] := by
 match l, h with
 | [a0, a1, a2, a3, a4], _ => exact ⟨a0, a1, a2, a3, a4, rfl⟩
theorem l3D {α : Type} (l : List α) (h : l.length = 3) : ∃ a0 a1 a2, l = [a0, a1, a2] := by
 match l, h with
 | [a0, a1, a2], _ => exact ⟨a0, a1, a2, rfl⟩
theorem l2D {α : Type} (l : List α) (h : l.length = 2) : ∃ a0 a1, l = [a0, a1] := by
 match l, h with
 | [a0, a1], _ => exact ⟨a0, a1, rfl⟩
theorem Tryz.c16Cl : Tryz.prog.cellsOf 43 = 5 := by kernel_rfl
theorem Tryz.c16Op : Tryz.prog.cellsOf 56 = 2 := by kernel_rfl
theorem Tryz.c16Dg : Tryz.prog.cellsOf 60 = 3 := by kernel_rfl
theorem Tryz.c16Ru : Tryz.prog.cellsOf 29 = 5 := by kernel_rfl
theorem Tryz.c16I : Tryz.prog.cellsOf 3 = 1 := by kernel_rfl
theorem Tryz.c16S : Tryz.prog.cellsOf 9 = 1 := by kernel_rfl
theorem Tryz.c16B : Tryz.prog.cellsOf 4 = 1 := by kernel_rfl
theorem Tryz.c16Ss : Tryz.prog.cellsOf 25 = 1 := by kernel_rfl
theorem Tryz.c16Sc : Tryz.prog.cellsOf 26 = 1 := by kernel_rfl
theorem Tryz.c16So : Tryz.prog.cellsOf 27 = 1 := by kernel_rfl
theorem Tryz.c16Sg : Tryz.prog.cellsOf 54 = 1 := by kernel_rfl
def dgR : Rl Dg := fun _ cs x => cs = encDg x
def clR : Rl Cl := fun _ cs x => cs = encCl x
set_option maxRecDepth 100000 in
theorem open_dg : Opens 60 dgR := by
 intro H enc W fuel cs y h
 obtain ⟨xs, k, hk, hxy, hcl, hxl, hf⟩ := DataW.trod_struct Tryz.underlying60 h
 rw [Tryz.c16Dg] at hcl
 obtain ⟨v0, v1, v2, rfl⟩ := l3D cs hcl
 obtain ⟨y0, y1, y2, rfl⟩ := l3D xs hxl
 have g0 : DataW.trod enc Tryz.prog W 0 (fun _ => true) true k 3 (([v0, v1, v2].drop 0).take (Tryz.prog.cellsOf 3)) = some y0 := hf 0 _ rfl
 rw [Tryz.c16I] at g0
 obtain ⟨a0, h0⟩ := Opens.int Tryz.underlying3 _ _ _ _ _ _ g0
 simp [intR] at h0
 have g1 : DataW.trod enc Tryz.prog W 0 (fun _ => true) true k 3 (([v0, v1, v2].drop 1).take (Tryz.prog.cellsOf 3)) = some y1 := hf 1 _ rfl
 rw [Tryz.c16I] at g1
 obtain ⟨a1, h1⟩ := Opens.int Tryz.underlying3 _ _ _ _ _ _ g1
 simp [intR] at h1
 have g2 : DataW.trod enc Tryz.prog W 0 (fun _ => true) true k 3 (([v0, v1, v2].drop 2).take (Tryz.prog.cellsOf 3)) = some y2 := hf 2 _ rfl
 rw [Tryz.c16I] at g2
 obtain ⟨a2, h2⟩ := Opens.int Tryz.underlying3 _ _ _ _ _ _ g2
 simp [intR] at h2
 exact ⟨(a0, a1, a2), by rw [h0, h1, h2]; rfl⟩
set_option maxRecDepth 100000 in
theorem open_cl : Opens 43 clR := by
 intro H enc W fuel cs y h
 obtain ⟨xs, k, hk, hxy, hcl, hxl, hf⟩ := DataW.trod_struct Tryz.underlying43 h
 rw [Tryz.c16Cl] at hcl
 obtain ⟨v0, v1, v2, v3, v4, rfl⟩ := l5D cs hcl
 obtain ⟨y0, y1, y2, y3, y4, rfl⟩ := l5D xs hxl
 have g0 : DataW.trod enc Tryz.prog W 0 (fun _ => true) true k 3 (([v0, v1, v2, v3, v4].drop 0).take (Tryz.prog.cellsOf 3)) = some y0 := hf 0 _ rfl
 rw [Tryz.c16I] at g0
 obtain ⟨a0, h0⟩ := Opens.int Tryz.underlying3 _ _ _ _ _ _ g0
 simp [intR] at h0
 have g1 : DataW.trod enc Tryz.prog W 0 (fun _ => true) true k 4 (([v0, v1, v2, v3, v4].drop 1).take (Tryz.prog.cellsOf 4)) = some y1 := hf 1 _ rfl
 rw [Tryz.c16B] at g1
 obtain ⟨a1, h1⟩ := Opens.bool Tryz.underlying4 _ _ _ _ _ _ g1
 simp [boolR] at h1
 have g2 : DataW.trod enc Tryz.prog W 0 (fun _ => true) true k 3 (([v0, v1, v2, v3, v4].drop 2).take (Tryz.prog.cellsOf 3)) = some y2 := hf 2 _ rfl
 rw [Tryz.c16I] at g2
 obtain ⟨a2, h2⟩ := Opens.int Tryz.underlying3 _ _ _ _ _ _ g2
 simp [intR] at h2
 have g3 : DataW.trod enc Tryz.prog W 0 (fun _ => true) true k 3 (([v0, v1, v2, v3, v4].drop 3).take (Tryz.prog.cellsOf 3)) = some y3 := hf 3 _ rfl
 rw [Tryz.c16I] at g3
 obtain ⟨a3, h3⟩ := Opens.int Tryz.underlying3 _ _ _ _ _ _ g3
 simp [intR] at h3
 have g4 : DataW.trod enc Tryz.prog W 0 (fun _ => true) true k 3 (([v0, v1, v2, v3, v4].drop 4).take (Tryz.prog.cellsOf 3)) = some y4 := hf 4 _ rfl
 rw [Tryz.c16I] at g4
 obtain ⟨a4, h4⟩ := Opens.int Tryz.underlying3 _ _ _ _ _ _ g4
 simp [intR] at h4
 exact ⟨(a0, a1, a2, a3, a4), by rw [h0, h1, h2, h3, h4]; rfl⟩
def opR16 : Rl Op := fun w cs x => ∃ p n c, cs = [.string x.1, .slice p n c] ∧ SR 3 dgR w p n x.2 ∧ CP p n c
set_option maxRecDepth 100000 in
theorem open_op16 : Opens 56 opR16 := by
 intro H enc W fuel cs y h
 obtain ⟨xs, k, hk, hxy, hcl, hxl, hf⟩ := DataW.trod_struct Tryz.underlying56 h
 rw [Tryz.c16Op] at hcl
 obtain ⟨v0, v1, rfl⟩ := l2D cs hcl
 obtain ⟨y0, y1, rfl⟩ := l2D xs hxl
 have g0 : DataW.trod enc Tryz.prog W 0 (fun _ => true) true k 9 (([v0, v1].drop 0).take (Tryz.prog.cellsOf 9)) = some y0 := hf 0 _ rfl
 rw [Tryz.c16S] at g0
 obtain ⟨a0, h0⟩ := Opens.string Tryz.underlying9 _ _ _ _ _ _ g0
 simp [strR] at h0
 have g1 : DataW.trod enc Tryz.prog W 0 (fun _ => true) true k 54 (([v0, v1].drop 1).take (Tryz.prog.cellsOf 54)) = some y1 := hf 1 _ rfl
 rw [Tryz.c16Sg] at g1
 obtain ⟨l1, p1, n1, c1, e1, h1, k1⟩ := (Opens.slice Tryz.underlying54 Tryz.c16Dg (by decide) open_dg (0, 0, 0)) _ _ _ _ _ _ g1
 simp at e1
 exact ⟨(a0, l1), p1, n1, c1, by rw [h0, e1], h1, k1⟩
theorem SR.rs16 {α : Type} {enc : α → List Value} {k : Nat} {w : World} {a : Option Addr} {n : Nat} {s : List α} (h : SR k (fun _ cs x => cs = enc x) w a n s) : RS enc k w a n s := by
 obtain ⟨h1, h2, h3⟩ := h
 refine ⟨h1, h2, h3.imp id ?_⟩
 rintro ⟨b, off, ha, hc⟩
 refine ⟨b, off, ha, fun i x hx j v hj => ?_⟩
 obtain ⟨r, _, hr, hcell⟩ := hc i x hx
 rw [hr] at hcell
 exact hcell j v hj
theorem SR.sf {α : Type} {k : Nat} {R : Rl α} {Q : Rf α} {w : World} (hR : ∀ cs x, R w cs x → (∀ v ∈ cs, v.oneCell' = true) ∧ ∃ F, Q w cs x F) {a : Option Addr} {n : Nat} {l : List α} (h : SR k R w a n l) : SF k Q w a n l := by
 obtain ⟨h1, h2, h3⟩ := h
 rcases Nat.eq_zero_or_pos n with hz | hp
 ·subst hz
  obtain rfl : l = [] := List.eq_nil_of_length_eq_zero h1
  exact SF.nil _ _
 ·obtain ⟨b, off, ha, hc⟩ : ∃ b off, a = some ⟨b, off, none⟩ ∧ ∀ (i : Nat) x, l[i]? = some x → ∃ r, r.length = k ∧ R w r x ∧ ∀ (j : Nat) v, r[j]? = some v → w.cell? ⟨b, off + i * k + j, none⟩ = some v := by
   rcases h3 with h0 | h0
   ·omega
   ·exact h0
  have each : ∀ i : Nat, ∃ r : Row k, ∀ x, l[i]? = some x → R w r.1 x ∧ ∀ (j : Nat) v, r.1[j]? = some v → w.cell? ⟨b, off + i * k + j, none⟩ = some v := by
   intro i
   by_cases hi : i < l.length
   ·obtain ⟨r, q1, q2, q3⟩ := hc i _ (List.getElem?_eq_getElem hi)
    refine ⟨⟨r, q1, (hR r _ q2).1⟩, fun x hx => ?_⟩
    rw [List.getElem?_eq_getElem hi] at hx
    cases hx
    exact ⟨q2, q3⟩
   ·obtain ⟨r, q1, q2, q3⟩ := hc 0 _ (List.getElem?_eq_getElem (show 0 < l.length by omega))
    refine ⟨⟨r, q1, (hR r _ q2).1⟩, fun x hx => ?_⟩
    rw [List.getElem?_eq_none (by omega)] at hx
    cases hx
  have hf : ∃ f : Nat → Row k, ∀ i x, l[i]? = some x → R w (f i).1 x ∧ ∀ (j : Nat) v, (f i).1[j]? = some v → w.cell? ⟨b, off + i * k + j, none⟩ = some v := ⟨fun i => Classical.choose (each i), fun i => Classical.choose_spec (each i)⟩
  obtain ⟨f, hf⟩ := hf
  refine ⟨(List.range n).map f, ⟨by simp, h2, .inr ⟨b, off, ha, fun i r hr j v hj => ?_⟩⟩, by simp [h1], fun i r x hr hx => ?_⟩
  ·have hi : i < n := by have := (List.getElem?_eq_some_iff.1 hr).1; simpa using this
   obtain rfl : f i = r := by simpa [hi] using hr
   exact (hf i _ (List.getElem?_eq_getElem (show i < l.length by omega))).2 j v hj
  ·have hi : i < n := by have := (List.getElem?_eq_some_iff.1 hr).1; simpa using this
   obtain rfl : f i = r := by simpa [hi] using hr
   exact (hR _ _ (hf i x hx).1).2
theorem rs_flf {α : Type} {enc : α → List Value} {k : Nat} {w : World} {p : Option Addr} {n : Nat} {l : List α} (h : RS enc k w p n l) (hk : ∀ x, 0 < (enc x).length) : FlF w p n (fun g => 0 < n ∧ ∃ b, p = some b ∧ g = b.block) := by
 refine ⟨?_, fun h0 a ha => ⟨h0, a, ha, rfl⟩⟩
 rintro g ⟨h0, b, rfl, rfl⟩
 rcases h.2.2 with hz | ⟨b', off, hb, hc⟩
 ·omega
 ·cases hb
  have hl : 0 < l.length := by rw [h.1]; exact h0
  have q : b' < w.heap.size := World.block_lt_of_cell? w ⟨b', off + 0 * k + 0, none⟩ (hc 0 _ (List.getElem?_eq_getElem hl) 0 _ (List.getElem?_eq_getElem (hk _)))
  exact q
theorem sf_op16 {w : World} {a : Option Addr} {n : Nat} {l : List Op} (h : SR 2 opR16 w a n l) : SF 2 ROp w a n l := by
 refine SR.sf (fun cs x hx => ?_) h
 obtain ⟨p, m, c, rfl, q1, q2⟩ := hx
 have q3 := SR.rs16 q1
 refine ⟨fun v hv => ?_, _, p, m, c, rfl, q3, q2, rs_flf q3 (fun x => by rw [encDg_len]; decide)⟩
 simp only [List.mem_cons, List.not_mem_nil, or_false] at hv
 rcases hv with rfl | rfl <;> rfl
def InR16 (w : World) (v : Value) : Prop := ∃ a1 a2 a3 a4 a5 n1 n2 n3 n4 n5 c1 c2 c3 c4 c5 r, v = .agg #[.slice a1 n1 c1, .slice a2 n2 c2, .slice a3 n3 c3, .slice a4 n4 c4, .slice a5 n5 c5] ∧ RuM w a1 a2 a3 a4 a5 n1 n2 n3 n4 n5 c1 c2 c3 c4 c5 r
set_option maxRecDepth 100000 in
theorem in_rules {H : Type} {enc : TypeId × Value → H} {W : World} {v : Value} {d : DataW H} {p : List MemPlace} {base : Nat} (hok : Value.okWide Tryz.prog W .any base 29 v) (h : DataW.Trod enc Tryz.prog W 0 (fun _ => true) true 29 v d p) (hw : ∀ n ∈ d.weights Tryz.prog 29, n ≤ reachBytes) : InR16 W v := by
 obtain ⟨cs, rfl, hsz⟩ := okWide_struct Tryz.underlying29 hok
 obtain ⟨cs⟩ := cs
 obtain ⟨v0, v1, v2, v3, v4, rfl⟩ := l5D cs (by simpa using hsz.trans Tryz.c16Ru)
 obtain ⟨fuel, hf⟩ := h
 obtain ⟨xs, k, hk, hxy, hcl, hxl, hf⟩ := DataW.trod_struct Tryz.underlying29 (show DataW.trod enc Tryz.prog W 0 (fun _ => true) true fuel 29 [v0, v1, v2, v3, v4] = some (d, p) from by simpa [Value.cells] using hf)
 obtain ⟨y0, y1, y2, y3, y4, rfl⟩ := l5D xs hxl
 have g0 : DataW.trod enc Tryz.prog W 0 (fun _ => true) true k 25 (([v0, v1, v2, v3, v4].drop 0).take (Tryz.prog.cellsOf 25)) = some y0 := hf 0 _ rfl
 rw [Tryz.c16Ss] at g0
 obtain ⟨l0, p0, n0, c0, e0, h0, k0⟩ := (Opens.slice Tryz.underlying25 Tryz.c16S (by decide) (Opens.string Tryz.underlying9) ⟨#[]⟩) _ _ _ _ _ _ g0
 simp at e0
 have g1 : DataW.trod enc Tryz.prog W 0 (fun _ => true) true k 25 (([v0, v1, v2, v3, v4].drop 1).take (Tryz.prog.cellsOf 25)) = some y1 := hf 1 _ rfl
 rw [Tryz.c16Ss] at g1
 obtain ⟨l1, p1, n1, c1, e1, h1, k1⟩ := (Opens.slice Tryz.underlying25 Tryz.c16S (by decide) (Opens.string Tryz.underlying9) ⟨#[]⟩) _ _ _ _ _ _ g1
 simp at e1
 have g2 : DataW.trod enc Tryz.prog W 0 (fun _ => true) true k 25 (([v0, v1, v2, v3, v4].drop 2).take (Tryz.prog.cellsOf 25)) = some y2 := hf 2 _ rfl
 rw [Tryz.c16Ss] at g2
 obtain ⟨l2, p2, n2, c2, e2, h2, k2⟩ := (Opens.slice Tryz.underlying25 Tryz.c16S (by decide) (Opens.string Tryz.underlying9) ⟨#[]⟩) _ _ _ _ _ _ g2
 simp at e2
 have g3 : DataW.trod enc Tryz.prog W 0 (fun _ => true) true k 26 (([v0, v1, v2, v3, v4].drop 3).take (Tryz.prog.cellsOf 26)) = some y3 := hf 3 _ rfl
 rw [Tryz.c16Sc] at g3
 obtain ⟨l3, p3, n3, c3, e3, h3, k3⟩ := (Opens.slice Tryz.underlying26 Tryz.c16Cl (by decide) open_cl (0, false, 0, 0, 0)) _ _ _ _ _ _ g3
 simp at e3
 have g4 : DataW.trod enc Tryz.prog W 0 (fun _ => true) true k 27 (([v0, v1, v2, v3, v4].drop 4).take (Tryz.prog.cellsOf 27)) = some y4 := hf 4 _ rfl
 rw [Tryz.c16So] at g4
 obtain ⟨l4, p4, n4, c4, e4, h4, k4⟩ := (Opens.slice Tryz.underlying27 Tryz.c16Op (by decide) open_op16 (⟨#[]⟩, [])) _ _ _ _ _ _ g4
 simp at e4
 exact ⟨p0, p1, p2, p3, p4, n0, n1, n2, n3, n4, c0, c1, c2, c3, c4, (l0, l1, l2, l3, l4), by rw [e0, e1, e2, e3, e4], ⟨SR.rs16 h0, k0⟩, ⟨SR.rs16 h1, k1⟩, ⟨SR.rs16 h2, k2⟩, ⟨SR.rs16 h3, k3⟩, ⟨sf_op16 h4, k4⟩⟩
end Go.Proofs.YtomppblgalepjaaGreatDoor

