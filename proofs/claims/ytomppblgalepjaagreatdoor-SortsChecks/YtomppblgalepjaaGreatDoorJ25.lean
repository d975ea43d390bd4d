/- Texts of this claim, joined: OF. -/
import Derived.Test.YtomppblgalepjaaGreatDoorJ24
/- A clause is seen (the program's, layer 16). -/
namespace Go.Proofs.YtomppblgalepjaaGreatDoor
open Go.RowKit Go.Lib
set_option linter.unusedVariables false
theorem fits16 (D k : Nat) (h : Int × Int × Int) (x : Sn16) (kd A B N : Int) (st : Bool) (w : World) (hS : SN w D h k x) : Calls Tryz.prog 65 #[.pointer (some ⟨D + 3, 0, none⟩), .agg #[.int .i64 kd, .bool st, .int .i64 A, .int .i64 B, .int .i64 N], .agg (frmV kd)] w fun e w' => e = .returned (.bool (clB h.1 h.2.1 (kd, st, A, B, N))) ∧ Below w.heap.size w w' := by
 unfold frmV
 by_cases h1 : kd = 4 ∨ kd = 5
 ·rw [if_pos h1]; exact fits16_A D k h x kd A B N st w hS h1
 rw [if_neg h1]
 by_cases h2 : kd = 9
 ·rw [if_pos h2]; exact fits16_B D k h x kd A B N st w hS h2
 rw [if_neg h2]
 by_cases h3 : kd = 6
 ·rw [if_pos h3]; exact fits16_C D k h x kd A B N st w hS h3
 rw [if_neg h3]
 by_cases h4 : kd = 7
 ·rw [if_pos h4]; exact fits16_D D k h x kd A B N st w hS h4
 rw [if_neg h4]
 by_cases h5 : kd = 8
 ·rw [if_pos h5]; exact fits16_E D k h x kd A B N st w hS h5
 rw [if_neg h5]
 exact fits16_Z D k h x kd A B N st w hS (by omega)
def clsS (h : Int × Int × Int) (cl : Int) (G : List Int) (c : Cl) : Bool := decide (cl + 1 ≤ 12) && clB h.1 h.2.1 c && (!decide (c.1 = 8) || flS G c.2.2.1)
def flo8 (kd A : Int) (G : List Int) : List Int := if kd = 8 then G ++ [A] else G
theorem clB_8 {s c A B N : Int} {st : Bool} (h : clB s c (8, st, A, B, N) = true) : 0 ≤ A ∧ A < c := by
 rw [clB_E rfl] at h
 simp only [Bool.and_eq_true] at h
 have q := h.1.1.1.1
 unfold inR at q
 exact decide_eq_true_iff.1 q
set_option maxHeartbeats 4000000 in
theorem clause16 (D k : Nat) (h : Int × Int × Int) (t1 t2 t3 cl op : Int) (S : List ByteArray) (G : List Int) (f : Int → Int → Int) (kd A B N : Int) (st : Bool) (w : World) (hS : SN w D h k ((t1, t2, t3, cl, op), S, G, f)) (hk : k ≤ 10000) (hcl : 0 ≤ cl ∧ cl ≤ 1000) (hh : h.2.1 ≤ 1000000) :
  Calls Tryz.prog 48 #[.pointer (some ⟨D + 3, 0, none⟩), .agg #[.int .i64 kd, .bool st, .int .i64 A, .int .i64 B, .int .i64 N]] w (SP 4 D h (k + 1) ((t1, t2, t3, cl + 1, op), S, flo8 kd A G, f) (clsS h cl G (kd, st, A, B, N)) w) := by
 have HSN := hide hS
 have c8 : w.cell? ⟨D + 3, 8, none⟩ = some (.int .i64 cl) := hS.1.cell 8 _ rfl
 have f8 : w.frozen? ⟨D + 3, 8, none⟩ = false := hS.1.free 8
 have hsz := hS.size
 obtain ⟨hc0, hc1⟩ := hcl
 have hwr : IntKind.i64.wrap (cl + 1) = cl + 1 := by unfold IntKind.wrap IntKind.bits; simp [IntKind.signed]; omega
 have c8a := cell_old (.cells #[.int .i64 kd, .bool st, .int .i64 A, .int .i64 B, .int .i64 N] 43) c8
 have f8a : (w.alloc (.cells #[.int .i64 kd, .bool st, .int .i64 A, .int .i64 B, .int .i64 N] 43)).frozen? ⟨D + 3, 8, none⟩ = false := (hS.below (bel1 w (.cells #[.int .i64 kd, .bool st, .int .i64 A, .int .i64 B, .int .i64 N] 43))).1.free 8
 clear hS
 go_enter Tryz.func48, Tryz.ntmps48
 go_upto_region 2 with fail
 generalize hu : (w.setCell ⟨D + 3, 8, none⟩ (.int .i64 (cl + 1))).alloc (.cells #[.int .i64 kd, .bool st, .int .i64 A, .int .i64 B, .int .i64 N] 43) = u at *
 have HG : Hid (GQ 4 D w u) := by unfold Hid; rw [← hu]; exact ((GQ.refl 4 D w).set (by omega) (by omega) _ _).next (bel1 _ _)
 have HXU : Hid (SN u D h k ((t1, t2, t3, cl + 1, op), S, G, f)) := by
  unfold Hid
  rw [← hu]
  have e : ∀ j, j < D + 3 → (w.setCell ⟨D + 3, 8, none⟩ (.int .i64 (cl + 1))).heap[j]? = w.heap[j]? := fun j hj => by
   have e2 : D + 3 ≠ j := by omega
   simp [World.setCell, Array.getElem?_modify, e2]
  refine SN.below ?_ (bel1 _ _)
  exact ⟨HSN.out.1.set 8 _, HSN.out.2.1.keep (e _ (by omega)), HSN.out.2.2.1.keep (e _ (by omega)), HSN.out.2.2.2.keep (e _ (by omega))⟩
 have HX : Hid (BX u w.heap.size #[.int .i64 kd, .bool st, .int .i64 A, .int .i64 B, .int .i64 N] 43) := by unfold Hid; rw [← hu]; exact BX.new _ _ (by simp [World.setCell]) _ _
 have b8 : u.cell? ⟨D + 3, 8, none⟩ = some (.int .i64 (cl + 1)) := HXU.out.1.cell 8 _ rfl
 have g0 := HX.out.cell 0 _ rfl
 have g1 := HX.out.cell 1 _ rfl
 have g2 := HX.out.cell 2 _ rfl
 have g3 := HX.out.cell 3 _ rfl
 have g4 := HX.out.cell 4 _ rfl
 clear hu c8 f8 c8a f8a hsz hwr
 by_cases hle : 12 < cl + 1
 ·have hgt : cl + 1 > 12 := hle
  have HR : Hid (clsS h cl G (kd, st, A, B, N) = false) := by unfold Hid clsS; rw [decide_eq_false (by omega)]; rfl
  refine wp_region_held_drew (S := fun W => Below u.heap.size u W) (by kernel_rfl) ((Below.refl _ u).drew) (fun hS0 => ?_)
  refine tkJ 0 12 hS0 ?_; simp only [ly]
  refine tkJ 1 13 hS0 ?_; simp only [ly]
  refine tkJ 2 14 hS0 ?_; simp only [ly]
  refine tkI 3 15 ?v4 rfl rfl hS0 ?hy4 ?_
  case hy4 => (intro W hW; have e0 := bcell hW b8; have e1 := bcell hW g0; have e2 := bcell hW g1; have e3 := bcell hW g2; have e4 := bcell hW g3; have e5 := bcell hW g4; clear hW; go_simp; try rfl)
  simp only [ly]
  refine tkJ 4 16 hS0 ?_; simp only [ly]
  refine tkJ 5 17 hS0 ?_; simp only [ly]
  refine tkM 6 18 hS0 ?_; simp only [ly]
  refine tkM 7 19 hS0 ?_; simp only [ly]
  refine tkM 8 20 hS0 ?_; simp only [ly]
  refine tkM 9 21 hS0 ?_; simp only [ly]
  refine tkM 10 22 hS0 ?_; simp only [ly]
  refine tkM 11 23 hS0 ?_; simp only [ly]
  refine tkM 12 24 hS0 ?_; simp only [ly]
  refine tkJ 13 25 hS0 ?_; simp only [ly]
  refine wpAnyH_done (by kernel_rfl) ?_ _
  have HB := hide hS0
  go_wp2
  go_ret
  exact ⟨by rw [HR.out]; rfl, HG.out.next HB.out, fun hh => by rw [HR.out] at hh; cases hh⟩
 ·have hgt : ¬ cl + 1 > 12 := hle
  rcases hcb : clB h.1 h.2.1 (kd, st, A, B, N) with _ | _
  ·have HCB := hide hcb
   have HR : Hid (clsS h cl G (kd, st, A, B, N) = false) := by unfold Hid clsS; rw [hcb, Bool.and_false]; rfl
   clear hcb
   refine wp_region_held_drew (S := fun W => Below u.heap.size u W) (by kernel_rfl) ((Below.refl _ u).drew) (fun hS0 => ?_)
   refine tkJ 0 12 hS0 ?_; simp only [ly]
   refine tkJ 1 13 hS0 ?_; simp only [ly]
   refine tkJ 2 14 hS0 ?_; simp only [ly]
   refine tkI 3 15 ?v11 rfl rfl hS0 ?hy11 ?_
   case hy11 => (intro W hW; have e0 := bcell hW b8; have e1 := bcell hW g0; have e2 := bcell hW g1; have e3 := bcell hW g2; have e4 := bcell hW g3; have e5 := bcell hW g4; clear hW; go_simp; try rfl)
   simp only [ly]
   refine tkJ 4 16 hS0 ?_; simp only [ly]
   refine tkJ 5 17 hS0 ?_; simp only [ly]
   refine tkJ 6 18 hS0 ?_; simp only [ly]
   refine tkI 7 19 ?v15 rfl rfl hS0 ?hy15 ?_
   case hy15 => (intro W hW; have e0 := bcell hW b8; have e1 := bcell hW g0; have e2 := bcell hW g1; have e3 := bcell hW g2; have e4 := bcell hW g3; have e5 := bcell hW g4; clear hW; go_simp; try rfl)
   simp only [ly]
   refine tkJ 8 20 hS0 ?_; simp only [ly]
   refine tkI 9 21 ?v17 rfl rfl hS0 ?hy17 ?_
   case hy17 => (intro W hW; have e0 := bcell hW b8; have e1 := bcell hW g0; have e2 := bcell hW g1; have e3 := bcell hW g2; have e4 := bcell hW g3; have e5 := bcell hW g4; clear hW; go_simp; try rfl)
   simp only [ly]
   refine wpAnyH_ready (rs := [10]) (by kernel_rfl) (by simp) ?_
   refine AllReadyH.cons rfl (fun K hK => ?_) AllReadyH.nil
   go_simp
   go_at_call 56
   refine (form16 kd _).mono ?_
   rintro e w1 ⟨rfl, hb⟩
   refine hK.out _ _ ?hs18 (fun hS1 => ?_)
   case hs18 => exact bel_next hS0 hb
   clear hK K hb
   try simp only [ly]
   refine wpAnyH_ready (rs := [11]) (by kernel_rfl) (by simp) ?_
   refine AllReadyH.cons rfl (fun K hK => ?_) AllReadyH.nil
   go_simp
   go_at_call 65
   refine (fits16 D k h _ kd A B N st _ (HXU.out.below hS1)).mono ?_
   rintro e w1 ⟨rfl, hb⟩
   rw [HCB.out]
   refine hK.out _ _ ?hs19 (fun hS2 => ?_)
   case hs19 => exact bel_next hS1 hb
   clear hK K hb
   try simp only [ly]
   refine tkJ 12 24 hS2 ?_; simp only [ly]
   refine tkJ 13 25 hS2 ?_; simp only [ly]
   refine wpAnyH_done (by kernel_rfl) ?_ _
   have HB := hide hS2
   go_wp2
   go_ret
   exact ⟨by rw [HR.out]; rfl, HG.out.next HB.out, fun hh => by rw [HR.out] at hh; cases hh⟩
  ·have HCB := hide hcb
   by_cases h8 : kd = 8
   ·subst h8
    have HWF : Hid ((Lit.int .i64 A).wf = true) := by have q := clB_8 hcb; exact WalkArith.wf_i64 (by omega)
    have HR : Hid (clsS h cl G (8, st, A, B, N) = flS G A) := by unfold Hid clsS; rw [hcb, decide_eq_true (show cl + 1 ≤ 12 by omega)]; simp
    clear hcb
    refine wp_region_held_drew (S := fun W => Below u.heap.size u W) (by kernel_rfl) ((Below.refl _ u).drew) (fun hS0 => ?_)
    refine tkJ 0 12 hS0 ?_; simp only [ly]
    refine tkJ 1 13 hS0 ?_; simp only [ly]
    refine tkJ 2 14 hS0 ?_; simp only [ly]
    refine tkI 3 15 ?v25 rfl rfl hS0 ?hy25 ?_
    case hy25 => (intro W hW; have e0 := bcell hW b8; have e1 := bcell hW g0; have e2 := bcell hW g1; have e3 := bcell hW g2; have e4 := bcell hW g3; have e5 := bcell hW g4; clear hW; go_simp; try rfl)
    simp only [ly]
    refine tkJ 4 16 hS0 ?_; simp only [ly]
    refine tkJ 5 17 hS0 ?_; simp only [ly]
    refine tkJ 6 18 hS0 ?_; simp only [ly]
    refine tkI 7 19 ?v29 rfl rfl hS0 ?hy29 ?_
    case hy29 => (intro W hW; have e0 := bcell hW b8; have e1 := bcell hW g0; have e2 := bcell hW g1; have e3 := bcell hW g2; have e4 := bcell hW g3; have e5 := bcell hW g4; clear hW; go_simp; try rfl)
    simp only [ly]
    refine tkJ 8 20 hS0 ?_; simp only [ly]
    refine tkI 9 21 ?v31 rfl rfl hS0 ?hy31 ?_
    case hy31 => (intro W hW; have e0 := bcell hW b8; have e1 := bcell hW g0; have e2 := bcell hW g1; have e3 := bcell hW g2; have e4 := bcell hW g3; have e5 := bcell hW g4; clear hW; go_simp; try rfl)
    simp only [ly]
    refine wpAnyH_ready (rs := [10]) (by kernel_rfl) (by simp) ?_
    refine AllReadyH.cons rfl (fun K hK => ?_) AllReadyH.nil
    go_simp
    go_at_call 56
    refine (form16 8 _).mono ?_
    rintro e w1 ⟨rfl, hb⟩
    refine hK.out _ _ ?hs32 (fun hS1 => ?_)
    case hs32 => exact bel_next hS0 hb
    clear hK K hb
    try simp only [ly]
    refine wpAnyH_ready (rs := [11]) (by kernel_rfl) (by simp) ?_
    refine AllReadyH.cons rfl (fun K hK => ?_) AllReadyH.nil
    go_simp
    go_at_call 65
    refine (fits16 D k h _ 8 A B N st _ (HXU.out.below hS1)).mono ?_
    rintro e w1 ⟨rfl, hb⟩
    rw [HCB.out]
    refine hK.out _ _ ?hs33 (fun hS2 => ?_)
    case hs33 => exact bel_next hS1 hb
    clear hK K hb
    try simp only [ly]
    refine tkJ 12 24 hS2 ?_; simp only [ly]
    refine tkJ 13 25 hS2 ?_; simp only [ly]
    refine wpAnyH_done (by kernel_rfl) ?_ _
    have HB := hide hS2
    have z0 := bcell hS2 g0
    have z2 := bcell hS2 g2
    clear b8 g0 g1 g2 g3 g4
    go_wp2_with (go_at_call 66; refine (floor16 D k h _ A _ (HXU.out.below HB.out) hk HWF.out).mono ?_; rintro e w5 ⟨rfl, hq, hpost⟩; have HQ := hide hq; have HPO := hide hpost; clear hq hpost)
    go_ret
    exact ⟨by rw [HR.out]; rfl, (HG.out.next HB.out).trans (HQ.out.more (by omega)), fun hh => by rw [show flo8 8 A G = G ++ [A] from if_pos rfl]; rw [HR.out] at hh; exact HPO.out hh⟩
   ·have HR : Hid (clsS h cl G (kd, st, A, B, N) = true) := by unfold Hid clsS; rw [hcb, decide_eq_true (show cl + 1 ≤ 12 by omega)]; simp [h8]
    have HFL : Hid (flo8 kd A G = G) := if_neg h8
    have b8e : (kd == 8) = false := by simpa using h8
    have b8n : (kd != 8) = true := by simpa using h8
    clear hcb h8
    refine wp_region_held_drew (S := fun W => Below u.heap.size u W) (by kernel_rfl) ((Below.refl _ u).drew) (fun hS0 => ?_)
    refine tkJ 0 12 hS0 ?_; simp only [ly]
    refine tkJ 1 13 hS0 ?_; simp only [ly]
    refine tkJ 2 14 hS0 ?_; simp only [ly]
    refine tkI 3 15 ?v39 rfl rfl hS0 ?hy39 ?_
    case hy39 => (intro W hW; have e0 := bcell hW b8; have e1 := bcell hW g0; have e2 := bcell hW g1; have e3 := bcell hW g2; have e4 := bcell hW g3; have e5 := bcell hW g4; clear hW; go_simp; try rfl)
    simp only [ly]
    refine tkJ 4 16 hS0 ?_; simp only [ly]
    refine tkJ 5 17 hS0 ?_; simp only [ly]
    refine tkJ 6 18 hS0 ?_; simp only [ly]
    refine tkI 7 19 ?v43 rfl rfl hS0 ?hy43 ?_
    case hy43 => (intro W hW; have e0 := bcell hW b8; have e1 := bcell hW g0; have e2 := bcell hW g1; have e3 := bcell hW g2; have e4 := bcell hW g3; have e5 := bcell hW g4; clear hW; go_simp; try rfl)
    simp only [ly]
    refine tkJ 8 20 hS0 ?_; simp only [ly]
    refine tkI 9 21 ?v45 rfl rfl hS0 ?hy45 ?_
    case hy45 => (intro W hW; have e0 := bcell hW b8; have e1 := bcell hW g0; have e2 := bcell hW g1; have e3 := bcell hW g2; have e4 := bcell hW g3; have e5 := bcell hW g4; clear hW; go_simp; try rfl)
    simp only [ly]
    refine wpAnyH_ready (rs := [10]) (by kernel_rfl) (by simp) ?_
    refine AllReadyH.cons rfl (fun K hK => ?_) AllReadyH.nil
    go_simp
    go_at_call 56
    refine (form16 kd _).mono ?_
    rintro e w1 ⟨rfl, hb⟩
    refine hK.out _ _ ?hs46 (fun hS1 => ?_)
    case hs46 => exact bel_next hS0 hb
    clear hK K hb
    try simp only [ly]
    refine wpAnyH_ready (rs := [11]) (by kernel_rfl) (by simp) ?_
    refine AllReadyH.cons rfl (fun K hK => ?_) AllReadyH.nil
    go_simp
    go_at_call 65
    refine (fits16 D k h _ kd A B N st _ (HXU.out.below hS1)).mono ?_
    rintro e w1 ⟨rfl, hb⟩
    rw [HCB.out]
    refine hK.out _ _ ?hs47 (fun hS2 => ?_)
    case hs47 => exact bel_next hS1 hb
    clear hK K hb
    try simp only [ly]
    refine tkJ 12 24 hS2 ?_; simp only [ly]
    refine tkJ 13 25 hS2 ?_; simp only [ly]
    refine wpAnyH_done (by kernel_rfl) ?_ _
    have HB := hide hS2
    have z0 := bcell hS2 g0
    clear b8 g0 g1 g2 g3 g4
    go_wp2
    go_ret
    exact ⟨by rw [HR.out]; rfl, HG.out.next HB.out, fun _ => by rw [HFL.out]; exact (HXU.out.below HB.out).mono (by omega)⟩
end Go.Proofs.YtomppblgalepjaaGreatDoor

