/- Raw that has nothing, any raw plain, cleaned, its bytes, and whether two are alike, are as the document says. -/
import Derived.Test.YtkbbegbpkndebaaGreatRows
import Derived.WalkKit
import Derived.ProofKit
import Derived.OpenShut
import Derived.ShutString
import Derived.ChangeOld
import Derived.Below
import Derived.SizedLaws
import Derived.Test.YtkbbegbpkndebaaGreatJ16
import Derived.Test.YtkbbegbpkndebaaGreatJ22
import Derived.Test.YtkbbegbpkndebaaGreatJ26
import Derived.Test.YtkbbegbpkndebaaGreatJ40
import Derived.Test.YtkbbegbpkndebaaGreatJ56
import Derived.Test.YtkbbegbpkndebaaGreatJ57
import Derived.Test.YtkbbegbpkndebaaGreatJ58
import Derived.Test.YtkbbegbpkndebaaGreatJ61
import Derived.Test.YtkbbegbpkndebaaGreatJ62

namespace Go.Proofs.YtkbbegbpkndebaaGreat.rawTells
open Go.ChangeShapes Go.WideShapes Go.ChangeAt Go.RowKit
set_option linter.unusedVariables false

theorem own : ownKnob Tryz.prog.godebug = none := by kernel_rfl
theorem laidOut : laidOutB Tryz.prog = true := by kernel_rfl

theorem zero13 (w : World) : RM w none 0 0 none 0 0 none 0 0 none 0 0 ([], [], [], []) := ⟨LS.nil w none, LS.nil w none, LS.nil w none, LS.nil w none, by simp [CP, maxLen], by simp [CP, maxLen], by simp [CP, maxLen], by simp [CP, maxLen]⟩
set_option maxRecDepth 2000 in
set_option maxHeartbeats 32000000 in
theorem walk (v0 : Value) (v1 : Value) (v2 : Value) (w : World) (w0 : InKd w v0) (w1 : InRw w v1) (w2 : InN w v2) :
  Calls Tryz.prog 4 #[v0, v1, v2] w fun e w' => e = .returned (.bool true) ∧ Below w.heap.size w w' := by
 obtain ⟨ps, ns, cs, pc, nc, cc, k, rfl, hK⟩ := w0
 obtain ⟨p1, n1, c1, p2, n2, c2, p3, n3, c3, p4, n4, c4, r, rfl, hR⟩ := w1
 obtain ⟨pk, nk, ck, c, rfl, hC, _⟩ := w2
 obtain ⟨g, hg⟩ : ∃ g, k.2.2 = g := ⟨_, rfl⟩
 rw [hg]
 have HK := hide hK
 have HR := hide hR
 have HC := hide hC
 have HZR : Hid (sameW r r = true) := sameW_yes rfl
 have HNO : Hid (∀ W, Calls Tryz.prog 18 #[.agg #[.slice none 0 0, .slice none 0 0, .slice none 0 0, .slice none 0 0]] W fun e w' => e = .returned (.bool true) ∧ Below W.heap.size W w') := fun W => none13 none 0 0 none 0 0 none 0 0 none 0 0 ([], [], [], []) W (zero13 W)
 have HB : Hid (Below w.heap.size w ((w.alloc (.cells #[.slice ps ns cs, .slice pc nc cc, .int .i64 g] 25)).alloc (.cells #[.slice p1 n1 c1, .slice p2 n2 c2, .slice p3 n3 c3, .slice p4 n4 c4] 31))) := bel2 w _ _
 have HBK : Hid (BX ((w.alloc (.cells #[.slice ps ns cs, .slice pc nc cc, .int .i64 g] 25)).alloc (.cells #[.slice p1 n1 c1, .slice p2 n2 c2, .slice p3 n3 c3, .slice p4 n4 c4] 31)) w.heap.size #[.slice ps ns cs, .slice pc nc cc, .int .i64 g] 25) := (BX.new w _ rfl _ _).alloc _
 have HBR : Hid (BX ((w.alloc (.cells #[.slice ps ns cs, .slice pc nc cc, .int .i64 g] 25)).alloc (.cells #[.slice p1 n1 c1, .slice p2 n2 c2, .slice p3 n3 c3, .slice p4 n4 c4] 31)) (w.heap.size + 1) #[.slice p1 n1 c1, .slice p2 n2 c2, .slice p3 n3 c3, .slice p4 n4 c4] 31) := BX.new (w.alloc (.cells #[.slice ps ns cs, .slice pc nc cc, .int .i64 g] 25)) _ (by simp) _ _
 clear hK hR hC
 go_enter Tryz.func4, Tryz.ntmps4
 go_upto_region 1 with fail
 generalize ((w.alloc (.cells #[.slice ps ns cs, .slice pc nc cc, .int .i64 g] 25)).alloc (.cells #[.slice p1 n1 c1, .slice p2 n2 c2, .slice p3 n3 c3, .slice p4 n4 c4] 31)) = u at *
 have a0 := HBK.out.cell 0 _ rfl
 have a1 := HBK.out.cell 1 _ rfl
 have a2 := HBK.out.cell 2 _ rfl
 have x0 := HBR.out.cell 0 _ rfl
 have x1 := HBR.out.cell 1 _ rfl
 have x2 := HBR.out.cell 2 _ rfl
 have x3 := HBR.out.cell 3 _ rfl
 go_wp2_with (go_at_call 7; refine (light13 _ _ _ _ _ _ k _ _ _ _ _ _ _ _ _ _ _ _ _ r _ (HK.out.below HB.out) (HR.out.below HB.out)).mono ?_; rintro e wl ⟨bl, rfl, hl, hb⟩; replace HB := hide (bel_next HB.out hb); (try replace HBK := hide (HBK.out.below hb)); (try replace HBR := hide (HBR.out.below hb)); (try replace HBN := hide (HBN.out.below hb)); (try replace HBP := hide (HBP.out.below hb)); (try replace HBX := hide (HBX.out.below hb)); (try replace HBV := hide (HBV.out.below hb)); (try replace HVN := hide (HVN.out.below hb)); (try replace HVP := hide (HVP.out.below hb)); (try replace HVX := hide (HVX.out.below hb)); (try replace HVV := hide (HVV.out.below hb)); (try replace HBY := hide (HBY.out.below hb)); (try replace a0 := bcell hb a0); (try replace a1 := bcell hb a1); (try replace a2 := bcell hb a2); (try replace x0 := bcell hb x0); (try replace x1 := bcell hb x1); (try replace x2 := bcell hb x2); (try replace x3 := bcell hb x3); (try replace bn0 := bcell hb bn0); (try replace bn1 := bcell hb bn1); (try replace bn2 := bcell hb bn2); (try replace bn3 := bcell hb bn3); (try replace bp0 := bcell hb bp0); (try replace bp1 := bcell hb bp1); (try replace bp2 := bcell hb bp2); (try replace bp3 := bcell hb bp3); (try replace bx0 := bcell hb bx0); (try replace bx1 := bcell hb bx1); (try replace bx2 := bcell hb bx2); (try replace bx3 := bcell hb bx3); (try replace bv0 := bcell hb bv0); (try replace bv1 := bcell hb bv1); (try replace bv2 := bcell hb bv2); (try replace bv3 := bcell hb bv3); clear hb; refine Stop.at ?_)
 unfold Stop
 cases bl
 ·clear hl
  go_wp2_with (go_at_call 9; refine (awake13s _).mono ?_; rintro e wz ⟨rfl, hb⟩; replace HB := hide (bel_next HB.out hb); clear hb)
  go_ret
  exact ⟨rfl, HB.out⟩
 have hl1 := hl rfl
 have HL1 := hide hl1
 have HBD : Hid (∀ s ∈ r.1, ∀ x ∈ s, x.2.1.length ≤ 100000 ∧ x.2.2.length ≤ 100000) := fun s hs x hx => ⟨Nat.le_trans ((hl1.s1 s hs).2 x hx).2.1 (by decide), Nat.le_trans ((hl1.s1 s hs).2 x hx).2.2 (by decide)⟩
 clear hl hl1
 by_cases h20 : (20 : Int) < (nk : Int)
 ·go_wp2_with (go_at_call 9; refine (awake13s _).mono ?_; rintro e wz ⟨rfl, hb⟩; replace HB := hide (bel_next HB.out hb); clear hb)
  go_ret
  exact ⟨rfl, HB.out⟩
 rcases hkb : kindsB k with _ | _
 ·have HM : Hid (mayW k r = false) := by
   rcases h : mayW k r with _ | _
   ·rfl
   ·rw [(mayW_iff.1 h).1] at hkb; cases hkb
  have HKB := hide hkb
  clear hkb
  go_upto_region 4 with (go_at_call 21; refine (New13_bad _ _ _ _ _ _ k _ _ hg (HK.out.below HB.out) HKB.out).mono ?_; rintro e wn ⟨rfl, hb⟩; replace HB := hide (bel_next HB.out hb); (try replace HBK := hide (HBK.out.below hb)); (try replace HBR := hide (HBR.out.below hb)); (try replace HBN := hide (HBN.out.below hb)); (try replace HBP := hide (HBP.out.below hb)); (try replace HBX := hide (HBX.out.below hb)); (try replace HBV := hide (HBV.out.below hb)); (try replace HVN := hide (HVN.out.below hb)); (try replace HVP := hide (HVP.out.below hb)); (try replace HVX := hide (HVX.out.below hb)); (try replace HVV := hide (HVV.out.below hb)); (try replace HBY := hide (HBY.out.below hb)); (try replace a0 := bcell hb a0); (try replace a1 := bcell hb a1); (try replace a2 := bcell hb a2); (try replace x0 := bcell hb x0); (try replace x1 := bcell hb x1); (try replace x2 := bcell hb x2); (try replace x3 := bcell hb x3); (try replace bn0 := bcell hb bn0); (try replace bn1 := bcell hb bn1); (try replace bn2 := bcell hb bn2); (try replace bn3 := bcell hb bn3); (try replace bp0 := bcell hb bp0); (try replace bp1 := bcell hb bp1); (try replace bp2 := bcell hb bp2); (try replace bp3 := bcell hb bp3); (try replace bx0 := bcell hb bx0); (try replace bx1 := bcell hb bx1); (try replace bx2 := bcell hb bx2); (try replace bx3 := bcell hb bx3); (try replace bv0 := bcell hb bv0); (try replace bv1 := bcell hb bv1); (try replace bv2 := bcell hb bv2); (try replace bv3 := bcell hb bv3); clear hb)
  have hb := bel1 wn (.cells #[.slice none 0 0, .slice none 0 0, .slice none 0 0, .slice none 0 0] 31)
  replace HB := hide (bel_next HB.out hb)
  (try replace HBK := hide (HBK.out.below hb))
  (try replace HBR := hide (HBR.out.below hb))
  (try replace HBN := hide (HBN.out.below hb))
  (try replace HBP := hide (HBP.out.below hb))
  (try replace HBX := hide (HBX.out.below hb))
  (try replace HBV := hide (HBV.out.below hb))
  (try replace HVN := hide (HVN.out.below hb))
  (try replace HVP := hide (HVP.out.below hb))
  (try replace HVX := hide (HVX.out.below hb))
  (try replace HVV := hide (HVV.out.below hb))
  (try replace HBY := hide (HBY.out.below hb))
  have HBN : Hid (BX (wn.alloc (.cells #[.slice none 0 0, .slice none 0 0, .slice none 0 0, .slice none 0 0] 31)) wn.heap.size #[.slice none 0 0, .slice none 0 0, .slice none 0 0, .slice none 0 0] 31) := BX.new wn _ rfl _ _
  clear hb a0 a1 a2 x0 x1 x2 x3
  generalize wn.heap.size = gwn at *
  generalize wn.alloc (.cells #[.slice none 0 0, .slice none 0 0, .slice none 0 0, .slice none 0 0] 31) = uwn at *
  have a0 := HBK.out.cell 0 _ rfl
  have a1 := HBK.out.cell 1 _ rfl
  have a2 := HBK.out.cell 2 _ rfl
  have x0 := HBR.out.cell 0 _ rfl
  have x1 := HBR.out.cell 1 _ rfl
  have x2 := HBR.out.cell 2 _ rfl
  have x3 := HBR.out.cell 3 _ rfl
  go_upto_region 5 with (go_at_call 22; refine (Plain13_bad _ _ _ _ _ _ k _ _ _ _ _ _ _ _ _ _ _ _ _ r _ hg (HK.out.below HB.out) (HR.out.below HB.out) HM.out).mono ?_; rintro e wp ⟨rfl, hb⟩; replace HB := hide (bel_next HB.out hb); (try replace HBK := hide (HBK.out.below hb)); (try replace HBR := hide (HBR.out.below hb)); (try replace HBN := hide (HBN.out.below hb)); (try replace HBP := hide (HBP.out.below hb)); (try replace HBX := hide (HBX.out.below hb)); (try replace HBV := hide (HBV.out.below hb)); (try replace HVN := hide (HVN.out.below hb)); (try replace HVP := hide (HVP.out.below hb)); (try replace HVX := hide (HVX.out.below hb)); (try replace HVV := hide (HVV.out.below hb)); (try replace HBY := hide (HBY.out.below hb)); (try replace a0 := bcell hb a0); (try replace a1 := bcell hb a1); (try replace a2 := bcell hb a2); (try replace x0 := bcell hb x0); (try replace x1 := bcell hb x1); (try replace x2 := bcell hb x2); (try replace x3 := bcell hb x3); (try replace bn0 := bcell hb bn0); (try replace bn1 := bcell hb bn1); (try replace bn2 := bcell hb bn2); (try replace bn3 := bcell hb bn3); (try replace bp0 := bcell hb bp0); (try replace bp1 := bcell hb bp1); (try replace bp2 := bcell hb bp2); (try replace bp3 := bcell hb bp3); (try replace bx0 := bcell hb bx0); (try replace bx1 := bcell hb bx1); (try replace bx2 := bcell hb bx2); (try replace bx3 := bcell hb bx3); (try replace bv0 := bcell hb bv0); (try replace bv1 := bcell hb bv1); (try replace bv2 := bcell hb bv2); (try replace bv3 := bcell hb bv3); clear hb)
  have hb := bel1 wp (.cells #[.slice none 0 0, .slice none 0 0, .slice none 0 0, .slice none 0 0] 31)
  replace HB := hide (bel_next HB.out hb)
  (try replace HBK := hide (HBK.out.below hb))
  (try replace HBR := hide (HBR.out.below hb))
  (try replace HBN := hide (HBN.out.below hb))
  (try replace HBP := hide (HBP.out.below hb))
  (try replace HBX := hide (HBX.out.below hb))
  (try replace HBV := hide (HBV.out.below hb))
  (try replace HVN := hide (HVN.out.below hb))
  (try replace HVP := hide (HVP.out.below hb))
  (try replace HVX := hide (HVX.out.below hb))
  (try replace HVV := hide (HVV.out.below hb))
  (try replace HBY := hide (HBY.out.below hb))
  have HBP : Hid (BX (wp.alloc (.cells #[.slice none 0 0, .slice none 0 0, .slice none 0 0, .slice none 0 0] 31)) wp.heap.size #[.slice none 0 0, .slice none 0 0, .slice none 0 0, .slice none 0 0] 31) := BX.new wp _ rfl _ _
  clear hb a0 a1 a2 x0 x1 x2 x3
  generalize wp.heap.size = gwp at *
  generalize wp.alloc (.cells #[.slice none 0 0, .slice none 0 0, .slice none 0 0, .slice none 0 0] 31) = uwp at *
  have a0 := HBK.out.cell 0 _ rfl
  have a1 := HBK.out.cell 1 _ rfl
  have a2 := HBK.out.cell 2 _ rfl
  have x0 := HBR.out.cell 0 _ rfl
  have x1 := HBR.out.cell 1 _ rfl
  have x2 := HBR.out.cell 2 _ rfl
  have x3 := HBR.out.cell 3 _ rfl
  go_upto_region 6 with (go_at_call 23; refine (Clean13_bad _ _ _ _ _ _ k _ _ _ _ _ _ _ _ _ _ _ _ _ r _ _ _ c _ hg (HK.out.below HB.out) (HR.out.below HB.out) (HC.out.below HB.out) HM.out).mono ?_; rintro e wx ⟨rfl, hb⟩; replace HB := hide (bel_next HB.out hb); (try replace HBK := hide (HBK.out.below hb)); (try replace HBR := hide (HBR.out.below hb)); (try replace HBN := hide (HBN.out.below hb)); (try replace HBP := hide (HBP.out.below hb)); (try replace HBX := hide (HBX.out.below hb)); (try replace HBV := hide (HBV.out.below hb)); (try replace HVN := hide (HVN.out.below hb)); (try replace HVP := hide (HVP.out.below hb)); (try replace HVX := hide (HVX.out.below hb)); (try replace HVV := hide (HVV.out.below hb)); (try replace HBY := hide (HBY.out.below hb)); (try replace a0 := bcell hb a0); (try replace a1 := bcell hb a1); (try replace a2 := bcell hb a2); (try replace x0 := bcell hb x0); (try replace x1 := bcell hb x1); (try replace x2 := bcell hb x2); (try replace x3 := bcell hb x3); (try replace bn0 := bcell hb bn0); (try replace bn1 := bcell hb bn1); (try replace bn2 := bcell hb bn2); (try replace bn3 := bcell hb bn3); (try replace bp0 := bcell hb bp0); (try replace bp1 := bcell hb bp1); (try replace bp2 := bcell hb bp2); (try replace bp3 := bcell hb bp3); (try replace bx0 := bcell hb bx0); (try replace bx1 := bcell hb bx1); (try replace bx2 := bcell hb bx2); (try replace bx3 := bcell hb bx3); (try replace bv0 := bcell hb bv0); (try replace bv1 := bcell hb bv1); (try replace bv2 := bcell hb bv2); (try replace bv3 := bcell hb bv3); clear hb)
  have hb := bel1 wx (.cells #[.slice none 0 0, .slice none 0 0, .slice none 0 0, .slice none 0 0] 31)
  replace HB := hide (bel_next HB.out hb)
  (try replace HBK := hide (HBK.out.below hb))
  (try replace HBR := hide (HBR.out.below hb))
  (try replace HBN := hide (HBN.out.below hb))
  (try replace HBP := hide (HBP.out.below hb))
  (try replace HBX := hide (HBX.out.below hb))
  (try replace HBV := hide (HBV.out.below hb))
  (try replace HVN := hide (HVN.out.below hb))
  (try replace HVP := hide (HVP.out.below hb))
  (try replace HVX := hide (HVX.out.below hb))
  (try replace HVV := hide (HVV.out.below hb))
  (try replace HBY := hide (HBY.out.below hb))
  have HBX : Hid (BX (wx.alloc (.cells #[.slice none 0 0, .slice none 0 0, .slice none 0 0, .slice none 0 0] 31)) wx.heap.size #[.slice none 0 0, .slice none 0 0, .slice none 0 0, .slice none 0 0] 31) := BX.new wx _ rfl _ _
  clear hb a0 a1 a2 x0 x1 x2 x3
  generalize wx.heap.size = gwx at *
  generalize wx.alloc (.cells #[.slice none 0 0, .slice none 0 0, .slice none 0 0, .slice none 0 0] 31) = uwx at *
  have a0 := HBK.out.cell 0 _ rfl
  have a1 := HBK.out.cell 1 _ rfl
  have a2 := HBK.out.cell 2 _ rfl
  have x0 := HBR.out.cell 0 _ rfl
  have x1 := HBR.out.cell 1 _ rfl
  have x2 := HBR.out.cell 2 _ rfl
  have x3 := HBR.out.cell 3 _ rfl
  go_upto_region 7 with (go_at_call 24; refine (Bytes13_bad _ _ _ _ _ _ k _ _ _ _ _ _ _ _ _ _ _ _ _ r _ hg (HK.out.below HB.out) (HR.out.below HB.out) HM.out).mono ?_; rintro e wb ⟨rfl, hb⟩; replace HB := hide (bel_next HB.out hb); (try replace HBK := hide (HBK.out.below hb)); (try replace HBR := hide (HBR.out.below hb)); (try replace HBN := hide (HBN.out.below hb)); (try replace HBP := hide (HBP.out.below hb)); (try replace HBX := hide (HBX.out.below hb)); (try replace HBV := hide (HBV.out.below hb)); (try replace HVN := hide (HVN.out.below hb)); (try replace HVP := hide (HVP.out.below hb)); (try replace HVX := hide (HVX.out.below hb)); (try replace HVV := hide (HVV.out.below hb)); (try replace HBY := hide (HBY.out.below hb)); (try replace a0 := bcell hb a0); (try replace a1 := bcell hb a1); (try replace a2 := bcell hb a2); (try replace x0 := bcell hb x0); (try replace x1 := bcell hb x1); (try replace x2 := bcell hb x2); (try replace x3 := bcell hb x3); (try replace bn0 := bcell hb bn0); (try replace bn1 := bcell hb bn1); (try replace bn2 := bcell hb bn2); (try replace bn3 := bcell hb bn3); (try replace bp0 := bcell hb bp0); (try replace bp1 := bcell hb bp1); (try replace bp2 := bcell hb bp2); (try replace bp3 := bcell hb bp3); (try replace bx0 := bcell hb bx0); (try replace bx1 := bcell hb bx1); (try replace bx2 := bcell hb bx2); (try replace bx3 := bcell hb bx3); (try replace bv0 := bcell hb bv0); (try replace bv1 := bcell hb bv1); (try replace bv2 := bcell hb bv2); (try replace bv3 := bcell hb bv3); clear hb)
  have bn0 := HBN.out.cell 0 _ rfl
  have bn1 := HBN.out.cell 1 _ rfl
  have bn2 := HBN.out.cell 2 _ rfl
  have bn3 := HBN.out.cell 3 _ rfl
  refine wp_region_held_drew (S := fun W => Below wb.heap.size wb W) (by kernel_rfl) ((Below.refl _ wb).drew) (fun hS0 => ?_)
  refine tkL 0 50 hS0 ?h ?_; case h => (intro W hW; have e0 := bcell hW a0; have e1 := bcell hW a1; have e2 := bcell hW a2; have e3 := bcell hW x0; have e4 := bcell hW x1; have e5 := bcell hW x2; have e6 := bcell hW x3; have e7 := bcell hW bn0; have e8 := bcell hW bn1; have e9 := bcell hW bn2; have e10 := bcell hW bn3; clear hW; go_simp; try rfl); simp only [ly]
  refine tkL 1 51 hS0 ?h ?_; case h => (intro W hW; have e0 := bcell hW a0; have e1 := bcell hW a1; have e2 := bcell hW a2; have e3 := bcell hW x0; have e4 := bcell hW x1; have e5 := bcell hW x2; have e6 := bcell hW x3; have e7 := bcell hW bn0; have e8 := bcell hW bn1; have e9 := bcell hW bn2; have e10 := bcell hW bn3; clear hW; go_simp; try rfl); simp only [ly]
  refine wpAnyH_ready (rs := [2]) (by kernel_rfl) (by simp) ?_
  refine AllReadyH.cons rfl (fun K hK => ?_) AllReadyH.nil
  go_simp
  refine (Same13_any _ _ _ _ _ _ _ _ _ _ _ _ _ _ _ _ _ _ _ _ _ _ _ _ r r _ (HR.out.below (bel_next HB.out hS0)) (HR.out.below (bel_next HB.out hS0))).mono ?_
  rintro e wy ⟨rfl, hb⟩
  rw [HZR.out]
  refine hK.out _ _ ?hs3 (fun hS1 => ?_)
  case hs3 => exact bel_next hS0 hb
  clear hK K hb
  try simp only [ly]
  refine tkJ 3 53 hS1 ?_; simp only [ly]
  refine tkJ 4 54 hS1 ?_; simp only [ly]
  refine tkL 5 55 hS1 ?h ?_; case h => (intro W hW; have e0 := bcell hW a0; have e1 := bcell hW a1; have e2 := bcell hW a2; have e3 := bcell hW x0; have e4 := bcell hW x1; have e5 := bcell hW x2; have e6 := bcell hW x3; have e7 := bcell hW bn0; have e8 := bcell hW bn1; have e9 := bcell hW bn2; have e10 := bcell hW bn3; clear hW; go_simp; try rfl); simp only [ly]
  refine tkJ 7 57 hS1 ?_; simp only [ly]
  refine tkJ 8 58 hS1 ?_; simp only [ly]
  refine wpAnyH_ready (rs := [6]) (by kernel_rfl) (by simp) ?_
  refine AllReadyH.cons rfl (fun K hK => ?_) AllReadyH.nil
  go_simp
  refine (Kinds13_ref _ _ _ _ _ _ k _ _ hg (HK.out.below (bel_next HB.out hS1))).mono ?_
  rintro e wy ⟨rfl, hb⟩
  rw [HKB.out]
  refine hK.out _ _ ?hs9 (fun hS2 => ?_)
  case hs9 => exact bel_next hS1 hb
  clear hK K hb
  try simp only [ly]
  refine tkJ 9 59 hS2 ?_; simp only [ly]
  refine tkJ 10 60 hS2 ?_; simp only [ly]
  refine tkJ 11 61 hS2 ?_; simp only [ly]
  refine tkJ 12 62 hS2 ?_; simp only [ly]
  refine tkJ 13 63 hS2 ?_; simp only [ly]
  refine tkJ 14 64 hS2 ?_; simp only [ly]
  refine tkM 15 65 hS2 ?_; simp only [ly]
  refine tkM 16 66 hS2 ?_; simp only [ly]
  refine tkM 17 67 hS2 ?_; simp only [ly]
  refine tkM 18 68 hS2 ?_; simp only [ly]
  refine tkM 19 69 hS2 ?_; simp only [ly]
  refine tkJ 20 70 hS2 ?_; simp only [ly]
  refine tkJ 21 71 hS2 ?_; simp only [ly]
  refine tkJ 22 72 hS2 ?_; simp only [ly]
  refine tkJ 23 73 hS2 ?_; simp only [ly]
  refine tkJ 24 74 hS2 ?_; simp only [ly]
  refine tkJ 25 75 hS2 ?_; simp only [ly]
  refine tkL 26 76 hS2 ?h ?_; case h => (intro W hW; have e0 := bcell hW a0; have e1 := bcell hW a1; have e2 := bcell hW a2; have e3 := bcell hW x0; have e4 := bcell hW x1; have e5 := bcell hW x2; have e6 := bcell hW x3; have e7 := bcell hW bn0; have e8 := bcell hW bn1; have e9 := bcell hW bn2; have e10 := bcell hW bn3; clear hW; go_simp; try rfl); simp only [ly]
  refine wpAnyH_ready (rs := [27]) (by kernel_rfl) (by simp) ?_
  refine AllReadyH.cons rfl (fun K hK => ?_) AllReadyH.nil
  go_simp
  refine (HNO.out _).mono ?_
  rintro e wy ⟨rfl, hb⟩
  refine hK.out _ _ ?hs23 (fun hS3 => ?_)
  case hs23 => exact bel_next hS2 hb
  clear hK K hb
  try simp only [ly]
  refine tkJ 28 78 hS3 ?_; simp only [ly]
  refine tkJ 29 79 hS3 ?_; simp only [ly]
  refine tkJ 30 80 hS3 ?_; simp only [ly]
  refine wpAnyH_done (by kernel_rfl) ?_ _
  have hb := hS3
  replace HB := hide (bel_next HB.out hb)
  (try replace HBK := hide (HBK.out.below hb))
  (try replace HBR := hide (HBR.out.below hb))
  (try replace HBN := hide (HBN.out.below hb))
  (try replace HBP := hide (HBP.out.below hb))
  (try replace HBX := hide (HBX.out.below hb))
  (try replace HBV := hide (HBV.out.below hb))
  (try replace HVN := hide (HVN.out.below hb))
  (try replace HVP := hide (HVP.out.below hb))
  (try replace HVX := hide (HVX.out.below hb))
  (try replace HVV := hide (HVV.out.below hb))
  (try replace HBY := hide (HBY.out.below hb))
  clear hb hS3 a0 a1 a2 x0 x1 x2 x3 bn0 bn1 bn2 bn3
  have a0 := HBK.out.cell 0 _ rfl
  have a1 := HBK.out.cell 1 _ rfl
  have a2 := HBK.out.cell 2 _ rfl
  have x0 := HBR.out.cell 0 _ rfl
  have x1 := HBR.out.cell 1 _ rfl
  have x2 := HBR.out.cell 2 _ rfl
  have x3 := HBR.out.cell 3 _ rfl
  have bp0 := HBP.out.cell 0 _ rfl
  have bp1 := HBP.out.cell 1 _ rfl
  have bp2 := HBP.out.cell 2 _ rfl
  have bp3 := HBP.out.cell 3 _ rfl
  have bx0 := HBX.out.cell 0 _ rfl
  have bx1 := HBX.out.cell 1 _ rfl
  have bx2 := HBX.out.cell 2 _ rfl
  have bx3 := HBX.out.cell 3 _ rfl
  go_wp2_with (first | (go_at_call 10; refine (May13_ref _ _ _ _ _ _ k _ _ _ _ _ _ _ _ _ _ _ _ _ r _ hg (HK.out.below HB.out) (HR.out.below HB.out) HBD.out).mono ?_; rintro e wm ⟨rfl, hb⟩; rw [HM.out]; replace HB := hide (bel_next HB.out hb); (try replace HBK := hide (HBK.out.below hb)); (try replace HBR := hide (HBR.out.below hb)); (try replace HBN := hide (HBN.out.below hb)); (try replace HBP := hide (HBP.out.below hb)); (try replace HBX := hide (HBX.out.below hb)); (try replace HBV := hide (HBV.out.below hb)); (try replace HVN := hide (HVN.out.below hb)); (try replace HVP := hide (HVP.out.below hb)); (try replace HVX := hide (HVX.out.below hb)); (try replace HVV := hide (HVV.out.below hb)); (try replace HBY := hide (HBY.out.below hb)); (try replace a0 := bcell hb a0); (try replace a1 := bcell hb a1); (try replace a2 := bcell hb a2); (try replace x0 := bcell hb x0); (try replace x1 := bcell hb x1); (try replace x2 := bcell hb x2); (try replace x3 := bcell hb x3); (try replace bn0 := bcell hb bn0); (try replace bn1 := bcell hb bn1); (try replace bn2 := bcell hb bn2); (try replace bn3 := bcell hb bn3); (try replace bp0 := bcell hb bp0); (try replace bp1 := bcell hb bp1); (try replace bp2 := bcell hb bp2); (try replace bp3 := bcell hb bp3); (try replace bx0 := bcell hb bx0); (try replace bx1 := bcell hb bx1); (try replace bx2 := bcell hb bx2); (try replace bx3 := bcell hb bx3); (try replace bv0 := bcell hb bv0); (try replace bv1 := bcell hb bv1); (try replace bv2 := bcell hb bv2); (try replace bv3 := bcell hb bv3); clear hb) | (go_at_call 18; refine (HNO.out _).mono ?_; rintro e wo ⟨rfl, hb⟩; replace HB := hide (bel_next HB.out hb); (try replace HBK := hide (HBK.out.below hb)); (try replace HBR := hide (HBR.out.below hb)); (try replace HBN := hide (HBN.out.below hb)); (try replace HBP := hide (HBP.out.below hb)); (try replace HBX := hide (HBX.out.below hb)); (try replace HBV := hide (HBV.out.below hb)); (try replace HVN := hide (HVN.out.below hb)); (try replace HVP := hide (HVP.out.below hb)); (try replace HVX := hide (HVX.out.below hb)); (try replace HVV := hide (HVV.out.below hb)); (try replace HBY := hide (HBY.out.below hb)); (try replace a0 := bcell hb a0); (try replace a1 := bcell hb a1); (try replace a2 := bcell hb a2); (try replace x0 := bcell hb x0); (try replace x1 := bcell hb x1); (try replace x2 := bcell hb x2); (try replace x3 := bcell hb x3); (try replace bn0 := bcell hb bn0); (try replace bn1 := bcell hb bn1); (try replace bn2 := bcell hb bn2); (try replace bn3 := bcell hb bn3); (try replace bp0 := bcell hb bp0); (try replace bp1 := bcell hb bp1); (try replace bp2 := bcell hb bp2); (try replace bp3 := bcell hb bp3); (try replace bx0 := bcell hb bx0); (try replace bx1 := bcell hb bx1); (try replace bx2 := bcell hb bx2); (try replace bx3 := bcell hb bx3); (try replace bv0 := bcell hb bv0); (try replace bv1 := bcell hb bv1); (try replace bv2 := bcell hb bv2); (try replace bv3 := bcell hb bv3); clear hb) | (go_at_call 9; refine (awake13s _).mono ?_; rintro e wz ⟨rfl, hb⟩; replace HB := hide (bel_next HB.out hb); clear hb))
  go_ret
  exact ⟨rfl, HB.out⟩
 obtain ⟨gn, hgn⟩ : ∃ gn : Nat, g = (gn : Int) := by
  have q : 0 ≤ k.2.2 := by
   have q := hkb
   unfold kindsB at q
   simp only [Bool.and_eq_true, decide_eq_true_iff] at q
   omega
  exact ⟨g.toNat, by omega⟩
 subst hgn
 have HKB := hide hkb
 clear hkb
 have HNW : Hid (∀ W, KM W ps ns cs pc nc cc k → Calls Tryz.prog 21 #[.agg #[.slice ps ns cs, .slice pc nc cc, .int .i64 (gn : Int)]] W fun e w' => ∃ q1 d1 q2 d2 q3 d3 q4 d4, e = .returned (.tuple #[.agg #[.slice q1 ns d1, .slice q2 nc d2, .slice q3 nc d3, .slice q4 gn d4], .int .i64 0]) ∧ RM w' q1 ns d1 q2 nc d2 q3 nc d3 q4 gn d4 (newW k) ∧ Below W.heap.size W w') := fun W h1 => (New13_good _ _ _ _ _ _ k gn W hg h1 HKB.out).mono (fun e w' ⟨q1, d1, q2, d2, q3, d3, q4, d4, h, ho, hb⟩ => ⟨q1, d1, q2, d2, q3, d3, q4, d4, h, ho.rm, hb⟩)
 rcases hm : mayW k r with _ | _
 ·have HM := hide hm
  clear hm
  go_upto_region 4 with (go_at_call 21; refine (HNW.out _ (HK.out.below HB.out)).mono ?_; rintro e wn ⟨q1, d1, q2, d2, q3, d3, q4, d4, rfl, hrm, hb⟩; replace HB := hide (bel_next HB.out hb); (try replace HBK := hide (HBK.out.below hb)); (try replace HBR := hide (HBR.out.below hb)); (try replace HBN := hide (HBN.out.below hb)); (try replace HBP := hide (HBP.out.below hb)); (try replace HBX := hide (HBX.out.below hb)); (try replace HBV := hide (HBV.out.below hb)); (try replace HVN := hide (HVN.out.below hb)); (try replace HVP := hide (HVP.out.below hb)); (try replace HVX := hide (HVX.out.below hb)); (try replace HVV := hide (HVV.out.below hb)); (try replace HBY := hide (HBY.out.below hb)); (try replace a0 := bcell hb a0); (try replace a1 := bcell hb a1); (try replace a2 := bcell hb a2); (try replace x0 := bcell hb x0); (try replace x1 := bcell hb x1); (try replace x2 := bcell hb x2); (try replace x3 := bcell hb x3); (try replace bn0 := bcell hb bn0); (try replace bn1 := bcell hb bn1); (try replace bn2 := bcell hb bn2); (try replace bn3 := bcell hb bn3); (try replace bp0 := bcell hb bp0); (try replace bp1 := bcell hb bp1); (try replace bp2 := bcell hb bp2); (try replace bp3 := bcell hb bp3); (try replace bx0 := bcell hb bx0); (try replace bx1 := bcell hb bx1); (try replace bx2 := bcell hb bx2); (try replace bx3 := bcell hb bx3); (try replace bv0 := bcell hb bv0); (try replace bv1 := bcell hb bv1); (try replace bv2 := bcell hb bv2); (try replace bv3 := bcell hb bv3); clear hb; have HVN := hide hrm; clear hrm)
  have hb := bel1 wn (.cells #[.slice q1 ns d1, .slice q2 nc d2, .slice q3 nc d3, .slice q4 gn d4] 31)
  replace HB := hide (bel_next HB.out hb)
  (try replace HBK := hide (HBK.out.below hb))
  (try replace HBR := hide (HBR.out.below hb))
  (try replace HBN := hide (HBN.out.below hb))
  (try replace HBP := hide (HBP.out.below hb))
  (try replace HBX := hide (HBX.out.below hb))
  (try replace HBV := hide (HBV.out.below hb))
  (try replace HVN := hide (HVN.out.below hb))
  (try replace HVP := hide (HVP.out.below hb))
  (try replace HVX := hide (HVX.out.below hb))
  (try replace HVV := hide (HVV.out.below hb))
  (try replace HBY := hide (HBY.out.below hb))
  have HBN : Hid (BX (wn.alloc (.cells #[.slice q1 ns d1, .slice q2 nc d2, .slice q3 nc d3, .slice q4 gn d4] 31)) wn.heap.size #[.slice q1 ns d1, .slice q2 nc d2, .slice q3 nc d3, .slice q4 gn d4] 31) := BX.new wn _ rfl _ _
  clear hb a0 a1 a2 x0 x1 x2 x3
  generalize wn.heap.size = gwn at *
  generalize wn.alloc (.cells #[.slice q1 ns d1, .slice q2 nc d2, .slice q3 nc d3, .slice q4 gn d4] 31) = uwn at *
  have a0 := HBK.out.cell 0 _ rfl
  have a1 := HBK.out.cell 1 _ rfl
  have a2 := HBK.out.cell 2 _ rfl
  have x0 := HBR.out.cell 0 _ rfl
  have x1 := HBR.out.cell 1 _ rfl
  have x2 := HBR.out.cell 2 _ rfl
  have x3 := HBR.out.cell 3 _ rfl
  go_upto_region 5 with (go_at_call 22; refine (Plain13_bad _ _ _ _ _ _ k _ _ _ _ _ _ _ _ _ _ _ _ _ r _ hg (HK.out.below HB.out) (HR.out.below HB.out) HM.out).mono ?_; rintro e wp ⟨rfl, hb⟩; replace HB := hide (bel_next HB.out hb); (try replace HBK := hide (HBK.out.below hb)); (try replace HBR := hide (HBR.out.below hb)); (try replace HBN := hide (HBN.out.below hb)); (try replace HBP := hide (HBP.out.below hb)); (try replace HBX := hide (HBX.out.below hb)); (try replace HBV := hide (HBV.out.below hb)); (try replace HVN := hide (HVN.out.below hb)); (try replace HVP := hide (HVP.out.below hb)); (try replace HVX := hide (HVX.out.below hb)); (try replace HVV := hide (HVV.out.below hb)); (try replace HBY := hide (HBY.out.below hb)); (try replace a0 := bcell hb a0); (try replace a1 := bcell hb a1); (try replace a2 := bcell hb a2); (try replace x0 := bcell hb x0); (try replace x1 := bcell hb x1); (try replace x2 := bcell hb x2); (try replace x3 := bcell hb x3); (try replace bn0 := bcell hb bn0); (try replace bn1 := bcell hb bn1); (try replace bn2 := bcell hb bn2); (try replace bn3 := bcell hb bn3); (try replace bp0 := bcell hb bp0); (try replace bp1 := bcell hb bp1); (try replace bp2 := bcell hb bp2); (try replace bp3 := bcell hb bp3); (try replace bx0 := bcell hb bx0); (try replace bx1 := bcell hb bx1); (try replace bx2 := bcell hb bx2); (try replace bx3 := bcell hb bx3); (try replace bv0 := bcell hb bv0); (try replace bv1 := bcell hb bv1); (try replace bv2 := bcell hb bv2); (try replace bv3 := bcell hb bv3); clear hb)
  have hb := bel1 wp (.cells #[.slice none 0 0, .slice none 0 0, .slice none 0 0, .slice none 0 0] 31)
  replace HB := hide (bel_next HB.out hb)
  (try replace HBK := hide (HBK.out.below hb))
  (try replace HBR := hide (HBR.out.below hb))
  (try replace HBN := hide (HBN.out.below hb))
  (try replace HBP := hide (HBP.out.below hb))
  (try replace HBX := hide (HBX.out.below hb))
  (try replace HBV := hide (HBV.out.below hb))
  (try replace HVN := hide (HVN.out.below hb))
  (try replace HVP := hide (HVP.out.below hb))
  (try replace HVX := hide (HVX.out.below hb))
  (try replace HVV := hide (HVV.out.below hb))
  (try replace HBY := hide (HBY.out.below hb))
  have HBP : Hid (BX (wp.alloc (.cells #[.slice none 0 0, .slice none 0 0, .slice none 0 0, .slice none 0 0] 31)) wp.heap.size #[.slice none 0 0, .slice none 0 0, .slice none 0 0, .slice none 0 0] 31) := BX.new wp _ rfl _ _
  clear hb a0 a1 a2 x0 x1 x2 x3
  generalize wp.heap.size = gwp at *
  generalize wp.alloc (.cells #[.slice none 0 0, .slice none 0 0, .slice none 0 0, .slice none 0 0] 31) = uwp at *
  have a0 := HBK.out.cell 0 _ rfl
  have a1 := HBK.out.cell 1 _ rfl
  have a2 := HBK.out.cell 2 _ rfl
  have x0 := HBR.out.cell 0 _ rfl
  have x1 := HBR.out.cell 1 _ rfl
  have x2 := HBR.out.cell 2 _ rfl
  have x3 := HBR.out.cell 3 _ rfl
  go_upto_region 6 with (go_at_call 23; refine (Clean13_bad _ _ _ _ _ _ k _ _ _ _ _ _ _ _ _ _ _ _ _ r _ _ _ c _ hg (HK.out.below HB.out) (HR.out.below HB.out) (HC.out.below HB.out) HM.out).mono ?_; rintro e wx ⟨rfl, hb⟩; replace HB := hide (bel_next HB.out hb); (try replace HBK := hide (HBK.out.below hb)); (try replace HBR := hide (HBR.out.below hb)); (try replace HBN := hide (HBN.out.below hb)); (try replace HBP := hide (HBP.out.below hb)); (try replace HBX := hide (HBX.out.below hb)); (try replace HBV := hide (HBV.out.below hb)); (try replace HVN := hide (HVN.out.below hb)); (try replace HVP := hide (HVP.out.below hb)); (try replace HVX := hide (HVX.out.below hb)); (try replace HVV := hide (HVV.out.below hb)); (try replace HBY := hide (HBY.out.below hb)); (try replace a0 := bcell hb a0); (try replace a1 := bcell hb a1); (try replace a2 := bcell hb a2); (try replace x0 := bcell hb x0); (try replace x1 := bcell hb x1); (try replace x2 := bcell hb x2); (try replace x3 := bcell hb x3); (try replace bn0 := bcell hb bn0); (try replace bn1 := bcell hb bn1); (try replace bn2 := bcell hb bn2); (try replace bn3 := bcell hb bn3); (try replace bp0 := bcell hb bp0); (try replace bp1 := bcell hb bp1); (try replace bp2 := bcell hb bp2); (try replace bp3 := bcell hb bp3); (try replace bx0 := bcell hb bx0); (try replace bx1 := bcell hb bx1); (try replace bx2 := bcell hb bx2); (try replace bx3 := bcell hb bx3); (try replace bv0 := bcell hb bv0); (try replace bv1 := bcell hb bv1); (try replace bv2 := bcell hb bv2); (try replace bv3 := bcell hb bv3); clear hb)
  have hb := bel1 wx (.cells #[.slice none 0 0, .slice none 0 0, .slice none 0 0, .slice none 0 0] 31)
  replace HB := hide (bel_next HB.out hb)
  (try replace HBK := hide (HBK.out.below hb))
  (try replace HBR := hide (HBR.out.below hb))
  (try replace HBN := hide (HBN.out.below hb))
  (try replace HBP := hide (HBP.out.below hb))
  (try replace HBX := hide (HBX.out.below hb))
  (try replace HBV := hide (HBV.out.below hb))
  (try replace HVN := hide (HVN.out.below hb))
  (try replace HVP := hide (HVP.out.below hb))
  (try replace HVX := hide (HVX.out.below hb))
  (try replace HVV := hide (HVV.out.below hb))
  (try replace HBY := hide (HBY.out.below hb))
  have HBX : Hid (BX (wx.alloc (.cells #[.slice none 0 0, .slice none 0 0, .slice none 0 0, .slice none 0 0] 31)) wx.heap.size #[.slice none 0 0, .slice none 0 0, .slice none 0 0, .slice none 0 0] 31) := BX.new wx _ rfl _ _
  clear hb a0 a1 a2 x0 x1 x2 x3
  generalize wx.heap.size = gwx at *
  generalize wx.alloc (.cells #[.slice none 0 0, .slice none 0 0, .slice none 0 0, .slice none 0 0] 31) = uwx at *
  have a0 := HBK.out.cell 0 _ rfl
  have a1 := HBK.out.cell 1 _ rfl
  have a2 := HBK.out.cell 2 _ rfl
  have x0 := HBR.out.cell 0 _ rfl
  have x1 := HBR.out.cell 1 _ rfl
  have x2 := HBR.out.cell 2 _ rfl
  have x3 := HBR.out.cell 3 _ rfl
  go_upto_region 7 with (go_at_call 24; refine (Bytes13_bad _ _ _ _ _ _ k _ _ _ _ _ _ _ _ _ _ _ _ _ r _ hg (HK.out.below HB.out) (HR.out.below HB.out) HM.out).mono ?_; rintro e wb ⟨rfl, hb⟩; replace HB := hide (bel_next HB.out hb); (try replace HBK := hide (HBK.out.below hb)); (try replace HBR := hide (HBR.out.below hb)); (try replace HBN := hide (HBN.out.below hb)); (try replace HBP := hide (HBP.out.below hb)); (try replace HBX := hide (HBX.out.below hb)); (try replace HBV := hide (HBV.out.below hb)); (try replace HVN := hide (HVN.out.below hb)); (try replace HVP := hide (HVP.out.below hb)); (try replace HVX := hide (HVX.out.below hb)); (try replace HVV := hide (HVV.out.below hb)); (try replace HBY := hide (HBY.out.below hb)); (try replace a0 := bcell hb a0); (try replace a1 := bcell hb a1); (try replace a2 := bcell hb a2); (try replace x0 := bcell hb x0); (try replace x1 := bcell hb x1); (try replace x2 := bcell hb x2); (try replace x3 := bcell hb x3); (try replace bn0 := bcell hb bn0); (try replace bn1 := bcell hb bn1); (try replace bn2 := bcell hb bn2); (try replace bn3 := bcell hb bn3); (try replace bp0 := bcell hb bp0); (try replace bp1 := bcell hb bp1); (try replace bp2 := bcell hb bp2); (try replace bp3 := bcell hb bp3); (try replace bx0 := bcell hb bx0); (try replace bx1 := bcell hb bx1); (try replace bx2 := bcell hb bx2); (try replace bx3 := bcell hb bx3); (try replace bv0 := bcell hb bv0); (try replace bv1 := bcell hb bv1); (try replace bv2 := bcell hb bv2); (try replace bv3 := bcell hb bv3); clear hb)
  have bn0 := HBN.out.cell 0 _ rfl
  have bn1 := HBN.out.cell 1 _ rfl
  have bn2 := HBN.out.cell 2 _ rfl
  have bn3 := HBN.out.cell 3 _ rfl
  refine wp_region_held_drew (S := fun W => Below wb.heap.size wb W) (by kernel_rfl) ((Below.refl _ wb).drew) (fun hS0 => ?_)
  refine tkL 0 50 hS0 ?h ?_; case h => (intro W hW; have e0 := bcell hW a0; have e1 := bcell hW a1; have e2 := bcell hW a2; have e3 := bcell hW x0; have e4 := bcell hW x1; have e5 := bcell hW x2; have e6 := bcell hW x3; have e7 := bcell hW bn0; have e8 := bcell hW bn1; have e9 := bcell hW bn2; have e10 := bcell hW bn3; clear hW; go_simp; try rfl); simp only [ly]
  refine tkL 1 51 hS0 ?h ?_; case h => (intro W hW; have e0 := bcell hW a0; have e1 := bcell hW a1; have e2 := bcell hW a2; have e3 := bcell hW x0; have e4 := bcell hW x1; have e5 := bcell hW x2; have e6 := bcell hW x3; have e7 := bcell hW bn0; have e8 := bcell hW bn1; have e9 := bcell hW bn2; have e10 := bcell hW bn3; clear hW; go_simp; try rfl); simp only [ly]
  refine wpAnyH_ready (rs := [2]) (by kernel_rfl) (by simp) ?_
  refine AllReadyH.cons rfl (fun K hK => ?_) AllReadyH.nil
  go_simp
  refine (Same13_any _ _ _ _ _ _ _ _ _ _ _ _ _ _ _ _ _ _ _ _ _ _ _ _ r r _ (HR.out.below (bel_next HB.out hS0)) (HR.out.below (bel_next HB.out hS0))).mono ?_
  rintro e wy ⟨rfl, hb⟩
  rw [HZR.out]
  refine hK.out _ _ ?hs29 (fun hS1 => ?_)
  case hs29 => exact bel_next hS0 hb
  clear hK K hb
  try simp only [ly]
  refine tkJ 3 53 hS1 ?_; simp only [ly]
  refine tkJ 4 54 hS1 ?_; simp only [ly]
  refine tkL 5 55 hS1 ?h ?_; case h => (intro W hW; have e0 := bcell hW a0; have e1 := bcell hW a1; have e2 := bcell hW a2; have e3 := bcell hW x0; have e4 := bcell hW x1; have e5 := bcell hW x2; have e6 := bcell hW x3; have e7 := bcell hW bn0; have e8 := bcell hW bn1; have e9 := bcell hW bn2; have e10 := bcell hW bn3; clear hW; go_simp; try rfl); simp only [ly]
  refine tkJ 7 57 hS1 ?_; simp only [ly]
  refine tkJ 8 58 hS1 ?_; simp only [ly]
  refine wpAnyH_ready (rs := [6]) (by kernel_rfl) (by simp) ?_
  refine AllReadyH.cons rfl (fun K hK => ?_) AllReadyH.nil
  go_simp
  refine (Kinds13_ref _ _ _ _ _ _ k _ _ hg (HK.out.below (bel_next HB.out hS1))).mono ?_
  rintro e wy ⟨rfl, hb⟩
  rw [HKB.out]
  refine hK.out _ _ ?hs35 (fun hS2 => ?_)
  case hs35 => exact bel_next hS1 hb
  clear hK K hb
  try simp only [ly]
  refine tkJ 9 59 hS2 ?_; simp only [ly]
  refine tkJ 10 60 hS2 ?_; simp only [ly]
  refine tkJ 11 61 hS2 ?_; simp only [ly]
  refine tkJ 12 62 hS2 ?_; simp only [ly]
  refine tkJ 13 63 hS2 ?_; simp only [ly]
  refine tkJ 14 64 hS2 ?_; simp only [ly]
  refine tkL 15 65 hS2 ?h ?_; case h => (intro W hW; have e0 := bcell hW a0; have e1 := bcell hW a1; have e2 := bcell hW a2; have e3 := bcell hW x0; have e4 := bcell hW x1; have e5 := bcell hW x2; have e6 := bcell hW x3; have e7 := bcell hW bn0; have e8 := bcell hW bn1; have e9 := bcell hW bn2; have e10 := bcell hW bn3; clear hW; go_simp; try rfl); simp only [ly]
  refine tkL 16 66 hS2 ?h ?_; case h => (intro W hW; have e0 := bcell hW a0; have e1 := bcell hW a1; have e2 := bcell hW a2; have e3 := bcell hW x0; have e4 := bcell hW x1; have e5 := bcell hW x2; have e6 := bcell hW x3; have e7 := bcell hW bn0; have e8 := bcell hW bn1; have e9 := bcell hW bn2; have e10 := bcell hW bn3; clear hW; go_simp; try rfl); simp only [ly]
  refine wpAnyH_ready (rs := [17]) (by kernel_rfl) (by simp) ?_
  refine AllReadyH.cons rfl (fun K hK => ?_) AllReadyH.nil
  go_simp
  refine (New13_ref _ _ _ _ _ _ k gn _ hg (HK.out.below (bel_next HB.out hS2)) HKB.out).mono ?_
  rintro e wy ⟨e1, f1, e2, f2, e3, f3, e4, f4, hs1, hs2, hs3, hs4, rfl, how, hrh, hb⟩
  have HVE := hide (OO.rm ⟨hs1, hs2, hs3, hs4, how, hrh⟩)
  clear how hrh
  refine hK.out _ _ ?hs44 (fun hS3 => ?_)
  case hs44 => exact bel_next hS2 hb
  clear hK K hb
  try simp only [ly]
  refine wpAnyH_ready (rs := [18]) (by kernel_rfl) (by simp) ?_
  refine AllReadyH.cons rfl (fun K hK => ?_) AllReadyH.nil
  go_simp
  refine (Same13_ref _ _ _ _ _ _ _ _ _ _ _ _ _ _ _ _ _ _ _ _ _ _ _ _ (newW k) (newW k) _ (HVN.out.below hS3) HVE.out).mono ?_
  rintro e wy ⟨rfl, hb⟩
  rw [sameW_yes rfl]
  refine hK.out _ _ ?hs45 (fun hS4 => ?_)
  case hs45 => exact bel_next hS3 hb
  clear hK K hb
  try simp only [ly]
  refine tkJ 19 69 hS4 ?_; simp only [ly]
  refine tkJ 20 70 hS4 ?_; simp only [ly]
  refine tkJ 21 71 hS4 ?_; simp only [ly]
  refine tkJ 22 72 hS4 ?_; simp only [ly]
  refine tkJ 23 73 hS4 ?_; simp only [ly]
  refine tkJ 24 74 hS4 ?_; simp only [ly]
  refine tkJ 25 75 hS4 ?_; simp only [ly]
  refine tkM 26 76 hS4 ?_; simp only [ly]
  refine tkM 27 77 hS4 ?_; simp only [ly]
  refine tkM 28 78 hS4 ?_; simp only [ly]
  refine tkJ 29 79 hS4 ?_; simp only [ly]
  refine tkJ 30 80 hS4 ?_; simp only [ly]
  refine wpAnyH_done (by kernel_rfl) ?_ _
  have hb := hS4
  replace HB := hide (bel_next HB.out hb)
  (try replace HBK := hide (HBK.out.below hb))
  (try replace HBR := hide (HBR.out.below hb))
  (try replace HBN := hide (HBN.out.below hb))
  (try replace HBP := hide (HBP.out.below hb))
  (try replace HBX := hide (HBX.out.below hb))
  (try replace HBV := hide (HBV.out.below hb))
  (try replace HVN := hide (HVN.out.below hb))
  (try replace HVP := hide (HVP.out.below hb))
  (try replace HVX := hide (HVX.out.below hb))
  (try replace HVV := hide (HVV.out.below hb))
  (try replace HBY := hide (HBY.out.below hb))
  clear hb hS4 a0 a1 a2 x0 x1 x2 x3 bn0 bn1 bn2 bn3
  have a0 := HBK.out.cell 0 _ rfl
  have a1 := HBK.out.cell 1 _ rfl
  have a2 := HBK.out.cell 2 _ rfl
  have x0 := HBR.out.cell 0 _ rfl
  have x1 := HBR.out.cell 1 _ rfl
  have x2 := HBR.out.cell 2 _ rfl
  have x3 := HBR.out.cell 3 _ rfl
  have bp0 := HBP.out.cell 0 _ rfl
  have bp1 := HBP.out.cell 1 _ rfl
  have bp2 := HBP.out.cell 2 _ rfl
  have bp3 := HBP.out.cell 3 _ rfl
  have bx0 := HBX.out.cell 0 _ rfl
  have bx1 := HBX.out.cell 1 _ rfl
  have bx2 := HBX.out.cell 2 _ rfl
  have bx3 := HBX.out.cell 3 _ rfl
  go_wp2_with (first | (go_at_call 10; refine (May13_ref _ _ _ _ _ _ k _ _ _ _ _ _ _ _ _ _ _ _ _ r _ hg (HK.out.below HB.out) (HR.out.below HB.out) HBD.out).mono ?_; rintro e wm ⟨rfl, hb⟩; rw [HM.out]; replace HB := hide (bel_next HB.out hb); (try replace HBK := hide (HBK.out.below hb)); (try replace HBR := hide (HBR.out.below hb)); (try replace HBN := hide (HBN.out.below hb)); (try replace HBP := hide (HBP.out.below hb)); (try replace HBX := hide (HBX.out.below hb)); (try replace HBV := hide (HBV.out.below hb)); (try replace HVN := hide (HVN.out.below hb)); (try replace HVP := hide (HVP.out.below hb)); (try replace HVX := hide (HVX.out.below hb)); (try replace HVV := hide (HVV.out.below hb)); (try replace HBY := hide (HBY.out.below hb)); (try replace a0 := bcell hb a0); (try replace a1 := bcell hb a1); (try replace a2 := bcell hb a2); (try replace x0 := bcell hb x0); (try replace x1 := bcell hb x1); (try replace x2 := bcell hb x2); (try replace x3 := bcell hb x3); (try replace bn0 := bcell hb bn0); (try replace bn1 := bcell hb bn1); (try replace bn2 := bcell hb bn2); (try replace bn3 := bcell hb bn3); (try replace bp0 := bcell hb bp0); (try replace bp1 := bcell hb bp1); (try replace bp2 := bcell hb bp2); (try replace bp3 := bcell hb bp3); (try replace bx0 := bcell hb bx0); (try replace bx1 := bcell hb bx1); (try replace bx2 := bcell hb bx2); (try replace bx3 := bcell hb bx3); (try replace bv0 := bcell hb bv0); (try replace bv1 := bcell hb bv1); (try replace bv2 := bcell hb bv2); (try replace bv3 := bcell hb bv3); clear hb) | (go_at_call 18; refine (HNO.out _).mono ?_; rintro e wo ⟨rfl, hb⟩; replace HB := hide (bel_next HB.out hb); (try replace HBK := hide (HBK.out.below hb)); (try replace HBR := hide (HBR.out.below hb)); (try replace HBN := hide (HBN.out.below hb)); (try replace HBP := hide (HBP.out.below hb)); (try replace HBX := hide (HBX.out.below hb)); (try replace HBV := hide (HBV.out.below hb)); (try replace HVN := hide (HVN.out.below hb)); (try replace HVP := hide (HVP.out.below hb)); (try replace HVX := hide (HVX.out.below hb)); (try replace HVV := hide (HVV.out.below hb)); (try replace HBY := hide (HBY.out.below hb)); (try replace a0 := bcell hb a0); (try replace a1 := bcell hb a1); (try replace a2 := bcell hb a2); (try replace x0 := bcell hb x0); (try replace x1 := bcell hb x1); (try replace x2 := bcell hb x2); (try replace x3 := bcell hb x3); (try replace bn0 := bcell hb bn0); (try replace bn1 := bcell hb bn1); (try replace bn2 := bcell hb bn2); (try replace bn3 := bcell hb bn3); (try replace bp0 := bcell hb bp0); (try replace bp1 := bcell hb bp1); (try replace bp2 := bcell hb bp2); (try replace bp3 := bcell hb bp3); (try replace bx0 := bcell hb bx0); (try replace bx1 := bcell hb bx1); (try replace bx2 := bcell hb bx2); (try replace bx3 := bcell hb bx3); (try replace bv0 := bcell hb bv0); (try replace bv1 := bcell hb bv1); (try replace bv2 := bcell hb bv2); (try replace bv3 := bcell hb bv3); clear hb) | (go_at_call 9; refine (awake13s _).mono ?_; rintro e wz ⟨rfl, hb⟩; replace HB := hide (bel_next HB.out hb); clear hb))
  go_ret
  exact ⟨rfl, HB.out⟩
 ·obtain rfl : ns = n1 := by
   have q1 := LS.len HR.out.s
   have q2 := (lensB_iff.1 (mayW_iff.1 hm).2.1).1
   have q3 := HK.out.s.1
   omega
  have HN : Hid (ns ≤ 100 ∧ n2 ≤ 100 ∧ n3 ≤ 100 ∧ n4 ≤ 100) := by
   have q1 := LS.len HR.out.s
   have q2 := LS.len HR.out.t
   have q3 := LS.len HR.out.a
   have q4 := LS.len HR.out.g
   have := HL1.out.l1
   have := HL1.out.l2
   have := HL1.out.l3
   have := HL1.out.l4
   exact ⟨by omega, by omega, by omega, by omega⟩
  have HN2 : Hid (ns ≤ 1000 ∧ n2 ≤ 1000 ∧ n3 ≤ 1000 ∧ n4 ≤ 1000) := by have := HN.out; unfold Hid; omega
  have HM := hide hm
  clear hm
  have HOS : Hid (OkS r) := fun s hs => by
   have q := HL1.out.s1 s hs
   exact ⟨((GW.start HM.out (fun s hs => ⟨Nat.le_trans (HL1.out.s1 s hs).1 (by decide), fun x hx => ⟨Nat.le_trans ((HL1.out.s1 s hs).2 x hx).2.1 (by decide), Nat.le_trans ((HL1.out.s1 s hs).2 x hx).2.2 (by decide)⟩⟩) (fun g hg => Nat.le_trans (HL1.out.s4 g hg) (by decide))).s s hs).1, Nat.le_trans q.1 (by decide), fun x hx => ⟨Nat.le_trans (q.2 x hx).2.1 (by decide), Nat.le_trans (q.2 x hx).2.2 (by decide)⟩⟩
  have HPL : Hid (∀ W, KM W ps ns cs pc nc cc k → RM W p1 ns c1 p2 n2 c2 p3 n3 c3 p4 n4 c4 r →  Calls Tryz.prog 22 #[.agg #[.slice ps ns cs, .slice pc nc cc, .int .i64 (gn : Int)], .agg #[.slice p1 ns c1, .slice p2 n2 c2, .slice p3 n3 c3, .slice p4 n4 c4]] W fun e w' => ∃ q1 d1 q2 d2 q3 d3 q4 d4, e = .returned (.tuple #[.agg #[.slice q1 ns d1, .slice q2 n2 d2, .slice q3 n3 d3, .slice q4 n4 d4], .int .i64 0]) ∧ RM w' q1 ns d1 q2 n2 d2 q3 n3 d3 q4 n4 d4 (plainW k r) ∧ Below W.heap.size W w') := fun W h1 h2 => (Plain13_good _ _ _ _ _ k _ _ _ _ _ _ _ _ _ _ _ _ _ r W hg h1 h2 HM.out (sz13 HL1.out) (okp13 HL1.out) HN2.out).mono (fun e w' ⟨q1, d1, q2, d2, q3, d3, q4, d4, h, ho, hb⟩ => ⟨q1, d1, q2, d2, q3, d3, q4, d4, h, ho.rm, hb⟩)
  have HPR : Hid (∀ W, KM W ps ns cs pc nc cc k → RM W p1 ns c1 p2 n2 c2 p3 n3 c3 p4 n4 c4 r →  Calls Tryz.prog 27 #[.agg #[.slice ps ns cs, .slice pc nc cc, .int .i64 (gn : Int)], .agg #[.slice p1 ns c1, .slice p2 n2 c2, .slice p3 n3 c3, .slice p4 n4 c4]] W fun e w' => ∃ q1 d1 q2 d2 q3 d3 q4 d4, e = .returned (.agg #[.slice q1 ns d1, .slice q2 n2 d2, .slice q3 n3 d3, .slice q4 n4 d4]) ∧ RM w' q1 ns d1 q2 n2 d2 q3 n3 d3 q4 n4 d4 (plainW k r) ∧ Below W.heap.size W w') := fun W h1 h2 => (Plain13_ref _ _ _ _ _ k _ _ _ _ _ _ _ _ _ _ _ _ _ r W h1 h2 HOS.out HN2.out).mono (fun e w' ⟨q1, d1, q2, d2, q3, d3, q4, d4, h, ho, hb⟩ => ⟨q1, d1, q2, d2, q3, d3, q4, d4, h, ho, hb⟩)
  have HBG : Hid (∀ W, KM W ps ns cs pc nc cc k → RM W p1 ns c1 p2 n2 c2 p3 n3 c3 p4 n4 c4 r → Calls Tryz.prog 24 #[.agg #[.slice ps ns cs, .slice pc nc cc, .int .i64 (gn : Int)], .agg #[.slice p1 ns c1, .slice p2 n2 c2, .slice p3 n3 c3, .slice p4 n4 c4]] W fun e w' => ∃ p cp, e = .returned (.tuple #[.slice p (bytRw (plainW k r)).length cp, .int .i64 0]) ∧ BS w' p (bytRw (plainW k r)).length (bytRw (plainW k r)) ∧ Below W.heap.size W w') := fun W h1 h2 => by
   refine (Bytes13_good _ _ _ _ _ k _ _ _ _ _ _ _ _ _ _ _ _ _ r W hg h1 h2 HM.out (sz13 HL1.out) (okp13 HL1.out) HN.out (sm13 HL1.out HM.out) (by decide) (by decide) (by decide)).mono ?_
   rintro e w' ⟨v, rfl, ho, hb⟩
   obtain ⟨p, cp, rfl, hbs, _⟩ := ho.open (byt_by _)
   exact ⟨p, cp, rfl, hbs, hb⟩
  have HBF : Hid (∀ e1 f1 e2 f2 e3 f3 e4 f4 W, RM W e1 ns f1 e2 n2 f2 e3 n3 f3 e4 n4 f4 (plainW k r) → Calls Tryz.prog 29 #[.agg #[.slice e1 ns f1, .slice e2 n2 f2, .slice e3 n3 f3, .slice e4 n4 f4]] W fun e w' => ∃ p cp, e = .returned (.slice p (bytRw (plainW k r)).length cp) ∧ BS w' p (bytRw (plainW k r)).length (bytRw (plainW k r)) ∧ Below W.heap.size W w') := fun e1 f1 e2 f2 e3 f3 e4 f4 W h1 => by
   refine (BytesR13 _ _ _ _ _ _ _ _ _ _ _ _ (plainW k r) W h1 HN.out (sm13 HL1.out HM.out) (by decide) (by decide) (by decide)).mono ?_
   rintro e w' ⟨v, rfl, ho, hb⟩
   obtain ⟨p, cp, rfl, hbs, _⟩ := ho.open (byt_by _)
   exact ⟨p, cp, rfl, hbs, hb⟩
  rcases hmc : mayC c with _ | _
  ·have HMC := hide hmc
   clear hmc HL1
   generalize bytRw (plainW k r) = BW at HBG HBF
   generalize BW.length = zB at HBG HBF
   generalize plainW k r = PW at HPL HPR HBF
   obtain ⟨bb, hbb⟩ : ∃ bb, sameW PW r = bb := ⟨_, rfl⟩
   have HZP := hide hbb
   clear hbb
   go_upto_region 4 with (go_at_call 21; refine (HNW.out _ (HK.out.below HB.out)).mono ?_; rintro e wn ⟨q1, d1, q2, d2, q3, d3, q4, d4, rfl, hrm, hb⟩; replace HB := hide (bel_next HB.out hb); (try replace HBK := hide (HBK.out.below hb)); (try replace HBR := hide (HBR.out.below hb)); (try replace HBN := hide (HBN.out.below hb)); (try replace HBP := hide (HBP.out.below hb)); (try replace HBX := hide (HBX.out.below hb)); (try replace HBV := hide (HBV.out.below hb)); (try replace HVN := hide (HVN.out.below hb)); (try replace HVP := hide (HVP.out.below hb)); (try replace HVX := hide (HVX.out.below hb)); (try replace HVV := hide (HVV.out.below hb)); (try replace HBY := hide (HBY.out.below hb)); (try replace a0 := bcell hb a0); (try replace a1 := bcell hb a1); (try replace a2 := bcell hb a2); (try replace x0 := bcell hb x0); (try replace x1 := bcell hb x1); (try replace x2 := bcell hb x2); (try replace x3 := bcell hb x3); (try replace bn0 := bcell hb bn0); (try replace bn1 := bcell hb bn1); (try replace bn2 := bcell hb bn2); (try replace bn3 := bcell hb bn3); (try replace bp0 := bcell hb bp0); (try replace bp1 := bcell hb bp1); (try replace bp2 := bcell hb bp2); (try replace bp3 := bcell hb bp3); (try replace bx0 := bcell hb bx0); (try replace bx1 := bcell hb bx1); (try replace bx2 := bcell hb bx2); (try replace bx3 := bcell hb bx3); (try replace bv0 := bcell hb bv0); (try replace bv1 := bcell hb bv1); (try replace bv2 := bcell hb bv2); (try replace bv3 := bcell hb bv3); clear hb; have HVN := hide hrm; clear hrm)
   have hb := bel1 wn (.cells #[.slice q1 ns d1, .slice q2 nc d2, .slice q3 nc d3, .slice q4 gn d4] 31)
   replace HB := hide (bel_next HB.out hb)
   (try replace HBK := hide (HBK.out.below hb))
   (try replace HBR := hide (HBR.out.below hb))
   (try replace HBN := hide (HBN.out.below hb))
   (try replace HBP := hide (HBP.out.below hb))
   (try replace HBX := hide (HBX.out.below hb))
   (try replace HBV := hide (HBV.out.below hb))
   (try replace HVN := hide (HVN.out.below hb))
   (try replace HVP := hide (HVP.out.below hb))
   (try replace HVX := hide (HVX.out.below hb))
   (try replace HVV := hide (HVV.out.below hb))
   (try replace HBY := hide (HBY.out.below hb))
   have HBN : Hid (BX (wn.alloc (.cells #[.slice q1 ns d1, .slice q2 nc d2, .slice q3 nc d3, .slice q4 gn d4] 31)) wn.heap.size #[.slice q1 ns d1, .slice q2 nc d2, .slice q3 nc d3, .slice q4 gn d4] 31) := BX.new wn _ rfl _ _
   clear hb a0 a1 a2 x0 x1 x2 x3
   generalize wn.heap.size = gwn at *
   generalize wn.alloc (.cells #[.slice q1 ns d1, .slice q2 nc d2, .slice q3 nc d3, .slice q4 gn d4] 31) = uwn at *
   have a0 := HBK.out.cell 0 _ rfl
   have a1 := HBK.out.cell 1 _ rfl
   have a2 := HBK.out.cell 2 _ rfl
   have x0 := HBR.out.cell 0 _ rfl
   have x1 := HBR.out.cell 1 _ rfl
   have x2 := HBR.out.cell 2 _ rfl
   have x3 := HBR.out.cell 3 _ rfl
   go_upto_region 5 with (go_at_call 22; refine (HPL.out _ (HK.out.below HB.out) (HR.out.below HB.out)).mono ?_; rintro e wp ⟨m1, o1, m2, o2, m3, o3, m4, o4, rfl, hrm, hb⟩; replace HB := hide (bel_next HB.out hb); (try replace HBK := hide (HBK.out.below hb)); (try replace HBR := hide (HBR.out.below hb)); (try replace HBN := hide (HBN.out.below hb)); (try replace HBP := hide (HBP.out.below hb)); (try replace HBX := hide (HBX.out.below hb)); (try replace HBV := hide (HBV.out.below hb)); (try replace HVN := hide (HVN.out.below hb)); (try replace HVP := hide (HVP.out.below hb)); (try replace HVX := hide (HVX.out.below hb)); (try replace HVV := hide (HVV.out.below hb)); (try replace HBY := hide (HBY.out.below hb)); (try replace a0 := bcell hb a0); (try replace a1 := bcell hb a1); (try replace a2 := bcell hb a2); (try replace x0 := bcell hb x0); (try replace x1 := bcell hb x1); (try replace x2 := bcell hb x2); (try replace x3 := bcell hb x3); (try replace bn0 := bcell hb bn0); (try replace bn1 := bcell hb bn1); (try replace bn2 := bcell hb bn2); (try replace bn3 := bcell hb bn3); (try replace bp0 := bcell hb bp0); (try replace bp1 := bcell hb bp1); (try replace bp2 := bcell hb bp2); (try replace bp3 := bcell hb bp3); (try replace bx0 := bcell hb bx0); (try replace bx1 := bcell hb bx1); (try replace bx2 := bcell hb bx2); (try replace bx3 := bcell hb bx3); (try replace bv0 := bcell hb bv0); (try replace bv1 := bcell hb bv1); (try replace bv2 := bcell hb bv2); (try replace bv3 := bcell hb bv3); clear hb; have HVP := hide hrm; clear hrm)
   have hb := bel1 wp (.cells #[.slice m1 ns o1, .slice m2 n2 o2, .slice m3 n3 o3, .slice m4 n4 o4] 31)
   replace HB := hide (bel_next HB.out hb)
   (try replace HBK := hide (HBK.out.below hb))
   (try replace HBR := hide (HBR.out.below hb))
   (try replace HBN := hide (HBN.out.below hb))
   (try replace HBP := hide (HBP.out.below hb))
   (try replace HBX := hide (HBX.out.below hb))
   (try replace HBV := hide (HBV.out.below hb))
   (try replace HVN := hide (HVN.out.below hb))
   (try replace HVP := hide (HVP.out.below hb))
   (try replace HVX := hide (HVX.out.below hb))
   (try replace HVV := hide (HVV.out.below hb))
   (try replace HBY := hide (HBY.out.below hb))
   have HBP : Hid (BX (wp.alloc (.cells #[.slice m1 ns o1, .slice m2 n2 o2, .slice m3 n3 o3, .slice m4 n4 o4] 31)) wp.heap.size #[.slice m1 ns o1, .slice m2 n2 o2, .slice m3 n3 o3, .slice m4 n4 o4] 31) := BX.new wp _ rfl _ _
   clear hb a0 a1 a2 x0 x1 x2 x3
   generalize wp.heap.size = gwp at *
   generalize wp.alloc (.cells #[.slice m1 ns o1, .slice m2 n2 o2, .slice m3 n3 o3, .slice m4 n4 o4] 31) = uwp at *
   have a0 := HBK.out.cell 0 _ rfl
   have a1 := HBK.out.cell 1 _ rfl
   have a2 := HBK.out.cell 2 _ rfl
   have x0 := HBR.out.cell 0 _ rfl
   have x1 := HBR.out.cell 1 _ rfl
   have x2 := HBR.out.cell 2 _ rfl
   have x3 := HBR.out.cell 3 _ rfl
   go_upto_region 6 with (go_at_call 23; refine (Clean13_clk _ _ _ _ _ _ k _ _ _ _ _ _ _ _ _ _ _ _ _ r _ _ _ c _ hg (HK.out.below HB.out) (HR.out.below HB.out) (HC.out.below HB.out) HM.out HMC.out).mono ?_; rintro e wx ⟨rfl, hb⟩; replace HB := hide (bel_next HB.out hb); (try replace HBK := hide (HBK.out.below hb)); (try replace HBR := hide (HBR.out.below hb)); (try replace HBN := hide (HBN.out.below hb)); (try replace HBP := hide (HBP.out.below hb)); (try replace HBX := hide (HBX.out.below hb)); (try replace HBV := hide (HBV.out.below hb)); (try replace HVN := hide (HVN.out.below hb)); (try replace HVP := hide (HVP.out.below hb)); (try replace HVX := hide (HVX.out.below hb)); (try replace HVV := hide (HVV.out.below hb)); (try replace HBY := hide (HBY.out.below hb)); (try replace a0 := bcell hb a0); (try replace a1 := bcell hb a1); (try replace a2 := bcell hb a2); (try replace x0 := bcell hb x0); (try replace x1 := bcell hb x1); (try replace x2 := bcell hb x2); (try replace x3 := bcell hb x3); (try replace bn0 := bcell hb bn0); (try replace bn1 := bcell hb bn1); (try replace bn2 := bcell hb bn2); (try replace bn3 := bcell hb bn3); (try replace bp0 := bcell hb bp0); (try replace bp1 := bcell hb bp1); (try replace bp2 := bcell hb bp2); (try replace bp3 := bcell hb bp3); (try replace bx0 := bcell hb bx0); (try replace bx1 := bcell hb bx1); (try replace bx2 := bcell hb bx2); (try replace bx3 := bcell hb bx3); (try replace bv0 := bcell hb bv0); (try replace bv1 := bcell hb bv1); (try replace bv2 := bcell hb bv2); (try replace bv3 := bcell hb bv3); clear hb)
   have hb := bel1 wx (.cells #[.slice none 0 0, .slice none 0 0, .slice none 0 0, .slice none 0 0] 31)
   replace HB := hide (bel_next HB.out hb)
   (try replace HBK := hide (HBK.out.below hb))
   (try replace HBR := hide (HBR.out.below hb))
   (try replace HBN := hide (HBN.out.below hb))
   (try replace HBP := hide (HBP.out.below hb))
   (try replace HBX := hide (HBX.out.below hb))
   (try replace HBV := hide (HBV.out.below hb))
   (try replace HVN := hide (HVN.out.below hb))
   (try replace HVP := hide (HVP.out.below hb))
   (try replace HVX := hide (HVX.out.below hb))
   (try replace HVV := hide (HVV.out.below hb))
   (try replace HBY := hide (HBY.out.below hb))
   have HBX : Hid (BX (wx.alloc (.cells #[.slice none 0 0, .slice none 0 0, .slice none 0 0, .slice none 0 0] 31)) wx.heap.size #[.slice none 0 0, .slice none 0 0, .slice none 0 0, .slice none 0 0] 31) := BX.new wx _ rfl _ _
   clear hb a0 a1 a2 x0 x1 x2 x3
   generalize wx.heap.size = gwx at *
   generalize wx.alloc (.cells #[.slice none 0 0, .slice none 0 0, .slice none 0 0, .slice none 0 0] 31) = uwx at *
   have a0 := HBK.out.cell 0 _ rfl
   have a1 := HBK.out.cell 1 _ rfl
   have a2 := HBK.out.cell 2 _ rfl
   have x0 := HBR.out.cell 0 _ rfl
   have x1 := HBR.out.cell 1 _ rfl
   have x2 := HBR.out.cell 2 _ rfl
   have x3 := HBR.out.cell 3 _ rfl
   go_upto_region 7 with (go_at_call 24; refine (HBG.out _ (HK.out.below HB.out) (HR.out.below HB.out)).mono ?_; rintro e wb ⟨yp, yc, rfl, hbs, hb⟩; replace HB := hide (bel_next HB.out hb); (try replace HBK := hide (HBK.out.below hb)); (try replace HBR := hide (HBR.out.below hb)); (try replace HBN := hide (HBN.out.below hb)); (try replace HBP := hide (HBP.out.below hb)); (try replace HBX := hide (HBX.out.below hb)); (try replace HBV := hide (HBV.out.below hb)); (try replace HVN := hide (HVN.out.below hb)); (try replace HVP := hide (HVP.out.below hb)); (try replace HVX := hide (HVX.out.below hb)); (try replace HVV := hide (HVV.out.below hb)); (try replace HBY := hide (HBY.out.below hb)); (try replace a0 := bcell hb a0); (try replace a1 := bcell hb a1); (try replace a2 := bcell hb a2); (try replace x0 := bcell hb x0); (try replace x1 := bcell hb x1); (try replace x2 := bcell hb x2); (try replace x3 := bcell hb x3); (try replace bn0 := bcell hb bn0); (try replace bn1 := bcell hb bn1); (try replace bn2 := bcell hb bn2); (try replace bn3 := bcell hb bn3); (try replace bp0 := bcell hb bp0); (try replace bp1 := bcell hb bp1); (try replace bp2 := bcell hb bp2); (try replace bp3 := bcell hb bp3); (try replace bx0 := bcell hb bx0); (try replace bx1 := bcell hb bx1); (try replace bx2 := bcell hb bx2); (try replace bx3 := bcell hb bx3); (try replace bv0 := bcell hb bv0); (try replace bv1 := bcell hb bv1); (try replace bv2 := bcell hb bv2); (try replace bv3 := bcell hb bv3); clear hb; have HBY := hide hbs; clear hbs)
   have bn0 := HBN.out.cell 0 _ rfl
   have bn1 := HBN.out.cell 1 _ rfl
   have bn2 := HBN.out.cell 2 _ rfl
   have bn3 := HBN.out.cell 3 _ rfl
   refine wp_region_held_drew (S := fun W => Below wb.heap.size wb W) (by kernel_rfl) ((Below.refl _ wb).drew) (fun hS0 => ?_)
   refine tkL 0 50 hS0 ?h ?_; case h => (intro W hW; have e0 := bcell hW a0; have e1 := bcell hW a1; have e2 := bcell hW a2; have e3 := bcell hW x0; have e4 := bcell hW x1; have e5 := bcell hW x2; have e6 := bcell hW x3; have e7 := bcell hW bn0; have e8 := bcell hW bn1; have e9 := bcell hW bn2; have e10 := bcell hW bn3; clear hW; go_simp; try rfl); simp only [ly]
   refine tkL 1 51 hS0 ?h ?_; case h => (intro W hW; have e0 := bcell hW a0; have e1 := bcell hW a1; have e2 := bcell hW a2; have e3 := bcell hW x0; have e4 := bcell hW x1; have e5 := bcell hW x2; have e6 := bcell hW x3; have e7 := bcell hW bn0; have e8 := bcell hW bn1; have e9 := bcell hW bn2; have e10 := bcell hW bn3; clear hW; go_simp; try rfl); simp only [ly]
   refine wpAnyH_ready (rs := [2]) (by kernel_rfl) (by simp) ?_
   refine AllReadyH.cons rfl (fun K hK => ?_) AllReadyH.nil
   go_simp
   refine (Same13_any _ _ _ _ _ _ _ _ _ _ _ _ _ _ _ _ _ _ _ _ _ _ _ _ r r _ (HR.out.below (bel_next HB.out hS0)) (HR.out.below (bel_next HB.out hS0))).mono ?_
   rintro e wy ⟨rfl, hb⟩
   rw [HZR.out]
   refine hK.out _ _ ?hs57 (fun hS1 => ?_)
   case hs57 => exact bel_next hS0 hb
   clear hK K hb
   try simp only [ly]
   refine tkJ 3 53 hS1 ?_; simp only [ly]
   refine tkJ 4 54 hS1 ?_; simp only [ly]
   refine tkL 5 55 hS1 ?h ?_; case h => (intro W hW; have e0 := bcell hW a0; have e1 := bcell hW a1; have e2 := bcell hW a2; have e3 := bcell hW x0; have e4 := bcell hW x1; have e5 := bcell hW x2; have e6 := bcell hW x3; have e7 := bcell hW bn0; have e8 := bcell hW bn1; have e9 := bcell hW bn2; have e10 := bcell hW bn3; clear hW; go_simp; try rfl); simp only [ly]
   refine tkJ 7 57 hS1 ?_; simp only [ly]
   refine tkJ 8 58 hS1 ?_; simp only [ly]
   refine wpAnyH_ready (rs := [6]) (by kernel_rfl) (by simp) ?_
   refine AllReadyH.cons rfl (fun K hK => ?_) AllReadyH.nil
   go_simp
   refine (Kinds13_ref _ _ _ _ _ _ k _ _ hg (HK.out.below (bel_next HB.out hS1))).mono ?_
   rintro e wy ⟨rfl, hb⟩
   rw [HKB.out]
   refine hK.out _ _ ?hs63 (fun hS2 => ?_)
   case hs63 => exact bel_next hS1 hb
   clear hK K hb
   try simp only [ly]
   refine tkJ 9 59 hS2 ?_; simp only [ly]
   refine tkJ 10 60 hS2 ?_; simp only [ly]
   refine tkJ 11 61 hS2 ?_; simp only [ly]
   refine tkJ 12 62 hS2 ?_; simp only [ly]
   refine tkJ 13 63 hS2 ?_; simp only [ly]
   refine tkJ 14 64 hS2 ?_; simp only [ly]
   refine tkL 15 65 hS2 ?h ?_; case h => (intro W hW; have e0 := bcell hW a0; have e1 := bcell hW a1; have e2 := bcell hW a2; have e3 := bcell hW x0; have e4 := bcell hW x1; have e5 := bcell hW x2; have e6 := bcell hW x3; have e7 := bcell hW bn0; have e8 := bcell hW bn1; have e9 := bcell hW bn2; have e10 := bcell hW bn3; clear hW; go_simp; try rfl); simp only [ly]
   refine tkL 16 66 hS2 ?h ?_; case h => (intro W hW; have e0 := bcell hW a0; have e1 := bcell hW a1; have e2 := bcell hW a2; have e3 := bcell hW x0; have e4 := bcell hW x1; have e5 := bcell hW x2; have e6 := bcell hW x3; have e7 := bcell hW bn0; have e8 := bcell hW bn1; have e9 := bcell hW bn2; have e10 := bcell hW bn3; clear hW; go_simp; try rfl); simp only [ly]
   refine wpAnyH_ready (rs := [17]) (by kernel_rfl) (by simp) ?_
   refine AllReadyH.cons rfl (fun K hK => ?_) AllReadyH.nil
   go_simp
   refine (New13_ref _ _ _ _ _ _ k gn _ hg (HK.out.below (bel_next HB.out hS2)) HKB.out).mono ?_
   rintro e wy ⟨e1, f1, e2, f2, e3, f3, e4, f4, hs1, hs2, hs3, hs4, rfl, how, hrh, hb⟩
   have HVE := hide (OO.rm ⟨hs1, hs2, hs3, hs4, how, hrh⟩)
   clear how hrh
   refine hK.out _ _ ?hs72 (fun hS3 => ?_)
   case hs72 => exact bel_next hS2 hb
   clear hK K hb
   try simp only [ly]
   refine wpAnyH_ready (rs := [18]) (by kernel_rfl) (by simp) ?_
   refine AllReadyH.cons rfl (fun K hK => ?_) AllReadyH.nil
   go_simp
   refine (Same13_ref _ _ _ _ _ _ _ _ _ _ _ _ _ _ _ _ _ _ _ _ _ _ _ _ (newW k) (newW k) _ (HVN.out.below hS3) HVE.out).mono ?_
   rintro e wy ⟨rfl, hb⟩
   rw [sameW_yes rfl]
   refine hK.out _ _ ?hs73 (fun hS4 => ?_)
   case hs73 => exact bel_next hS3 hb
   clear hK K hb
   try simp only [ly]
   refine tkJ 19 69 hS4 ?_; simp only [ly]
   refine tkJ 20 70 hS4 ?_; simp only [ly]
   refine tkJ 21 71 hS4 ?_; simp only [ly]
   refine tkJ 22 72 hS4 ?_; simp only [ly]
   refine tkJ 23 73 hS4 ?_; simp only [ly]
   refine tkJ 24 74 hS4 ?_; simp only [ly]
   refine tkJ 25 75 hS4 ?_; simp only [ly]
   refine tkM 26 76 hS4 ?_; simp only [ly]
   refine tkM 27 77 hS4 ?_; simp only [ly]
   refine tkM 28 78 hS4 ?_; simp only [ly]
   refine tkJ 29 79 hS4 ?_; simp only [ly]
   refine tkJ 30 80 hS4 ?_; simp only [ly]
   refine wpAnyH_done (by kernel_rfl) ?_ _
   have hb := hS4
   replace HB := hide (bel_next HB.out hb)
   (try replace HBK := hide (HBK.out.below hb))
   (try replace HBR := hide (HBR.out.below hb))
   (try replace HBN := hide (HBN.out.below hb))
   (try replace HBP := hide (HBP.out.below hb))
   (try replace HBX := hide (HBX.out.below hb))
   (try replace HBV := hide (HBV.out.below hb))
   (try replace HVN := hide (HVN.out.below hb))
   (try replace HVP := hide (HVP.out.below hb))
   (try replace HVX := hide (HVX.out.below hb))
   (try replace HVV := hide (HVV.out.below hb))
   (try replace HBY := hide (HBY.out.below hb))
   clear hb hS4 a0 a1 a2 x0 x1 x2 x3 bn0 bn1 bn2 bn3
   have a0 := HBK.out.cell 0 _ rfl
   have a1 := HBK.out.cell 1 _ rfl
   have a2 := HBK.out.cell 2 _ rfl
   have x0 := HBR.out.cell 0 _ rfl
   have x1 := HBR.out.cell 1 _ rfl
   have x2 := HBR.out.cell 2 _ rfl
   have x3 := HBR.out.cell 3 _ rfl
   go_upto_region 11 with (go_at_call 10; refine (May13_ref _ _ _ _ _ _ k _ _ _ _ _ _ _ _ _ _ _ _ _ r _ hg (HK.out.below HB.out) (HR.out.below HB.out) HBD.out).mono ?_; rintro e wm ⟨rfl, hb⟩; rw [HM.out]; replace HB := hide (bel_next HB.out hb); (try replace HBK := hide (HBK.out.below hb)); (try replace HBR := hide (HBR.out.below hb)); (try replace HBN := hide (HBN.out.below hb)); (try replace HBP := hide (HBP.out.below hb)); (try replace HBX := hide (HBX.out.below hb)); (try replace HBV := hide (HBV.out.below hb)); (try replace HVN := hide (HVN.out.below hb)); (try replace HVP := hide (HVP.out.below hb)); (try replace HVX := hide (HVX.out.below hb)); (try replace HVV := hide (HVV.out.below hb)); (try replace HBY := hide (HBY.out.below hb)); (try replace a0 := bcell hb a0); (try replace a1 := bcell hb a1); (try replace a2 := bcell hb a2); (try replace x0 := bcell hb x0); (try replace x1 := bcell hb x1); (try replace x2 := bcell hb x2); (try replace x3 := bcell hb x3); (try replace bn0 := bcell hb bn0); (try replace bn1 := bcell hb bn1); (try replace bn2 := bcell hb bn2); (try replace bn3 := bcell hb bn3); (try replace bp0 := bcell hb bp0); (try replace bp1 := bcell hb bp1); (try replace bp2 := bcell hb bp2); (try replace bp3 := bcell hb bp3); (try replace bx0 := bcell hb bx0); (try replace bx1 := bcell hb bx1); (try replace bx2 := bcell hb bx2); (try replace bx3 := bcell hb bx3); (try replace bv0 := bcell hb bv0); (try replace bv1 := bcell hb bv1); (try replace bv2 := bcell hb bv2); (try replace bv3 := bcell hb bv3); clear hb)
   go_upto_region 12 with (go_at_call 27; refine (HPR.out _ (HK.out.below HB.out) (HR.out.below HB.out)).mono ?_; rintro e wv ⟨i1, j1, i2, j2, i3, j3, i4, j4, rfl, hrm, hb⟩; replace HB := hide (bel_next HB.out hb); (try replace HBK := hide (HBK.out.below hb)); (try replace HBR := hide (HBR.out.below hb)); (try replace HBN := hide (HBN.out.below hb)); (try replace HBP := hide (HBP.out.below hb)); (try replace HBX := hide (HBX.out.below hb)); (try replace HBV := hide (HBV.out.below hb)); (try replace HVN := hide (HVN.out.below hb)); (try replace HVP := hide (HVP.out.below hb)); (try replace HVX := hide (HVX.out.below hb)); (try replace HVV := hide (HVV.out.below hb)); (try replace HBY := hide (HBY.out.below hb)); (try replace a0 := bcell hb a0); (try replace a1 := bcell hb a1); (try replace a2 := bcell hb a2); (try replace x0 := bcell hb x0); (try replace x1 := bcell hb x1); (try replace x2 := bcell hb x2); (try replace x3 := bcell hb x3); (try replace bn0 := bcell hb bn0); (try replace bn1 := bcell hb bn1); (try replace bn2 := bcell hb bn2); (try replace bn3 := bcell hb bn3); (try replace bp0 := bcell hb bp0); (try replace bp1 := bcell hb bp1); (try replace bp2 := bcell hb bp2); (try replace bp3 := bcell hb bp3); (try replace bx0 := bcell hb bx0); (try replace bx1 := bcell hb bx1); (try replace bx2 := bcell hb bx2); (try replace bx3 := bcell hb bx3); (try replace bv0 := bcell hb bv0); (try replace bv1 := bcell hb bv1); (try replace bv2 := bcell hb bv2); (try replace bv3 := bcell hb bv3); clear hb; have HVV := hide hrm; clear hrm)
   have hb := bel1 wv (.cells #[.slice i1 ns j1, .slice i2 n2 j2, .slice i3 n3 j3, .slice i4 n4 j4] 31)
   replace HB := hide (bel_next HB.out hb)
   (try replace HBK := hide (HBK.out.below hb))
   (try replace HBR := hide (HBR.out.below hb))
   (try replace HBN := hide (HBN.out.below hb))
   (try replace HBP := hide (HBP.out.below hb))
   (try replace HBX := hide (HBX.out.below hb))
   (try replace HBV := hide (HBV.out.below hb))
   (try replace HVN := hide (HVN.out.below hb))
   (try replace HVP := hide (HVP.out.below hb))
   (try replace HVX := hide (HVX.out.below hb))
   (try replace HVV := hide (HVV.out.below hb))
   (try replace HBY := hide (HBY.out.below hb))
   have HBV : Hid (BX (wv.alloc (.cells #[.slice i1 ns j1, .slice i2 n2 j2, .slice i3 n3 j3, .slice i4 n4 j4] 31)) wv.heap.size #[.slice i1 ns j1, .slice i2 n2 j2, .slice i3 n3 j3, .slice i4 n4 j4] 31) := BX.new wv _ rfl _ _
   clear hb a0 a1 a2 x0 x1 x2 x3
   generalize wv.heap.size = gwv at *
   generalize wv.alloc (.cells #[.slice i1 ns j1, .slice i2 n2 j2, .slice i3 n3 j3, .slice i4 n4 j4] 31) = uwv at *
   have a0 := HBK.out.cell 0 _ rfl
   have a1 := HBK.out.cell 1 _ rfl
   have a2 := HBK.out.cell 2 _ rfl
   have x0 := HBR.out.cell 0 _ rfl
   have x1 := HBR.out.cell 1 _ rfl
   have x2 := HBR.out.cell 2 _ rfl
   have x3 := HBR.out.cell 3 _ rfl
   have HBZ := HBV
   have bp0 := HBP.out.cell 0 _ rfl
   have bp1 := HBP.out.cell 1 _ rfl
   have bp2 := HBP.out.cell 2 _ rfl
   have bp3 := HBP.out.cell 3 _ rfl
   have bv0 := HBV.out.cell 0 _ rfl
   have bv1 := HBV.out.cell 1 _ rfl
   have bv2 := HBV.out.cell 2 _ rfl
   have bv3 := HBV.out.cell 3 _ rfl
   cases bb
   ·refine wp_region_held_drew (S := fun W => Below uwv.heap.size uwv W) (by kernel_rfl) ((Below.refl _ uwv).drew) (fun hS0 => ?_)
    refine tkJ 0 114 hS0 ?_; simp only [ly]
    refine tkJ 1 115 hS0 ?_; simp only [ly]
    refine tkJ 2 116 hS0 ?_; simp only [ly]
    refine tkJ 3 117 hS0 ?_; simp only [ly]
    refine tkJ 4 118 hS0 ?_; simp only [ly]
    refine tkJ 5 119 hS0 ?_; simp only [ly]
    refine tkJ 6 120 hS0 ?_; simp only [ly]
    refine tkL 7 121 hS0 ?h ?_; case h => (intro W hW; have e0 := bcell hW x0; have e1 := bcell hW x1; have e2 := bcell hW x2; have e3 := bcell hW x3; have e4 := bcell hW bp0; have e5 := bcell hW bp1; have e6 := bcell hW bp2; have e7 := bcell hW bp3; have e8 := bcell hW bv0; have e9 := bcell hW bv1; have e10 := bcell hW bv2; have e11 := bcell hW bv3; clear hW; go_simp; try rfl); simp only [ly]
    refine tkL 8 122 hS0 ?h ?_; case h => (intro W hW; have e0 := bcell hW x0; have e1 := bcell hW x1; have e2 := bcell hW x2; have e3 := bcell hW x3; have e4 := bcell hW bp0; have e5 := bcell hW bp1; have e6 := bcell hW bp2; have e7 := bcell hW bp3; have e8 := bcell hW bv0; have e9 := bcell hW bv1; have e10 := bcell hW bv2; have e11 := bcell hW bv3; clear hW; go_simp; try rfl); simp only [ly]
    refine wpAnyH_ready (rs := [9]) (by kernel_rfl) (by simp) ?_
    refine AllReadyH.cons rfl (fun K hK => ?_) AllReadyH.nil
    go_simp
    refine (Same13_ref _ _ _ _ _ _ _ _ _ _ _ _ _ _ _ _ _ _ _ _ _ _ _ _ PW PW _ (HVP.out.below hS0) (HVV.out.below hS0)).mono ?_
    rintro e wy ⟨rfl, hb⟩
    rw [sameW_yes rfl]
    refine hK.out _ _ ?hs92 (fun hS1 => ?_)
    case hs92 => exact bel_next hS0 hb
    clear hK K hb
    try simp only [ly]
    refine tkJ 10 124 hS1 ?_; simp only [ly]
    refine tkJ 11 125 hS1 ?_; simp only [ly]
    refine tkJ 12 126 hS1 ?_; simp only [ly]
    refine tkJ 13 127 hS1 ?_; simp only [ly]
    refine tkL 14 128 hS1 ?h ?_; case h => (intro W hW; have e0 := bcell hW x0; have e1 := bcell hW x1; have e2 := bcell hW x2; have e3 := bcell hW x3; have e4 := bcell hW bp0; have e5 := bcell hW bp1; have e6 := bcell hW bp2; have e7 := bcell hW bp3; have e8 := bcell hW bv0; have e9 := bcell hW bv1; have e10 := bcell hW bv2; have e11 := bcell hW bv3; clear hW; go_simp; try rfl); simp only [ly]
    refine wpAnyH_ready (rs := [15]) (by kernel_rfl) (by simp) ?_
    refine AllReadyH.cons rfl (fun K hK => ?_) AllReadyH.nil
    go_simp
    refine (HBF.out _ _ _ _ _ _ _ _ _ (HVV.out.below hS1)).mono ?_
    rintro e wy ⟨yp2, yc2, rfl, hbs, hb⟩
    have HY2 := hide hbs
    have HY1 := hide (HBY.out.below (bel_next hS1 hb))
    clear hbs
    refine hK.out _ _ ?hs98 (fun hS2 => ?_)
    case hs98 => exact bel_next hS1 hb
    clear hK K hb
    try simp only [ly]
    refine wpAnyH_ready (rs := [16]) (by kernel_rfl) (by simp) ?_
    refine AllReadyH.cons rfl (fun K hK => ?_) AllReadyH.nil
    go_simp
    refine (bytes_as _ _ _ _ _ _ BW BW _ true (decide_eq_true rfl) HY1.out HY2.out).mono ?_
    rintro e wy ⟨rfl, hb⟩
    refine hK.out _ _ ?hs99 (fun hS3 => ?_)
    case hs99 => exact bel_next hS2 hb
    clear hK K hb
    try simp only [ly]
    refine tkJ 17 131 hS3 ?_; simp only [ly]
    refine tkJ 18 132 hS3 ?_; simp only [ly]
    refine tkJ 19 133 hS3 ?_; simp only [ly]
    refine tkL 20 134 hS3 ?h ?_; case h => (intro W hW; have e0 := bcell hW x0; have e1 := bcell hW x1; have e2 := bcell hW x2; have e3 := bcell hW x3; have e4 := bcell hW bp0; have e5 := bcell hW bp1; have e6 := bcell hW bp2; have e7 := bcell hW bp3; have e8 := bcell hW bv0; have e9 := bcell hW bv1; have e10 := bcell hW bv2; have e11 := bcell hW bv3; clear hW; go_simp; try rfl); simp only [ly]
    refine tkL 21 135 hS3 ?h ?_; case h => (intro W hW; have e0 := bcell hW x0; have e1 := bcell hW x1; have e2 := bcell hW x2; have e3 := bcell hW x3; have e4 := bcell hW bp0; have e5 := bcell hW bp1; have e6 := bcell hW bp2; have e7 := bcell hW bp3; have e8 := bcell hW bv0; have e9 := bcell hW bv1; have e10 := bcell hW bv2; have e11 := bcell hW bv3; clear hW; go_simp; try rfl); simp only [ly]
    refine tkL 23 137 hS3 ?h ?_; case h => (intro W hW; have e0 := bcell hW x0; have e1 := bcell hW x1; have e2 := bcell hW x2; have e3 := bcell hW x3; have e4 := bcell hW bp0; have e5 := bcell hW bp1; have e6 := bcell hW bp2; have e7 := bcell hW bp3; have e8 := bcell hW bv0; have e9 := bcell hW bv1; have e10 := bcell hW bv2; have e11 := bcell hW bv3; clear hW; go_simp; try rfl); simp only [ly]
    refine tkL 24 138 hS3 ?h ?_; case h => (intro W hW; have e0 := bcell hW x0; have e1 := bcell hW x1; have e2 := bcell hW x2; have e3 := bcell hW x3; have e4 := bcell hW bp0; have e5 := bcell hW bp1; have e6 := bcell hW bp2; have e7 := bcell hW bp3; have e8 := bcell hW bv0; have e9 := bcell hW bv1; have e10 := bcell hW bv2; have e11 := bcell hW bv3; clear hW; go_simp; try rfl); simp only [ly]
    refine wpAnyH_ready (rs := [22]) (by kernel_rfl) (by simp) ?_
    refine AllReadyH.cons rfl (fun K hK => ?_) AllReadyH.nil
    go_simp
    refine (Same13_any _ _ _ _ _ _ _ _ _ _ _ _ _ _ _ _ _ _ _ _ _ _ _ _ PW r _ (HVP.out.below hS3) (HR.out.below (bel_next HB.out hS3))).mono ?_
    rintro e wy ⟨rfl, hb⟩
    rw [HZP.out]
    refine hK.out _ _ ?hs107 (fun hS4 => ?_)
    case hs107 => exact bel_next hS3 hb
    clear hK K hb
    try simp only [ly]
    refine wpAnyH_ready (rs := [25]) (by kernel_rfl) (by simp) ?_
    refine AllReadyH.cons rfl (fun K hK => ?_) AllReadyH.nil
    go_simp
    refine (Same13_ref _ _ _ _ _ _ _ _ _ _ _ _ _ _ _ _ _ _ _ _ _ _ _ _ PW r _ (HVV.out.below hS4) (HR.out.below (bel_next HB.out hS4))).mono ?_
    rintro e wy ⟨rfl, hb⟩
    rw [HZP.out]
    refine hK.out _ _ ?hs108 (fun hS5 => ?_)
    case hs108 => exact bel_next hS4 hb
    clear hK K hb
    try simp only [ly]
    refine tkJ 26 140 hS5 ?_; simp only [ly]
    refine tkJ 27 141 hS5 ?_; simp only [ly]
    refine wpAnyH_done (by kernel_rfl) ?_ _
    have hb := hS5
    replace HB := hide (bel_next HB.out hb)
    (try replace HBK := hide (HBK.out.below hb))
    (try replace HBR := hide (HBR.out.below hb))
    (try replace HBN := hide (HBN.out.below hb))
    (try replace HBP := hide (HBP.out.below hb))
    (try replace HBX := hide (HBX.out.below hb))
    (try replace HBV := hide (HBV.out.below hb))
    (try replace HVN := hide (HVN.out.below hb))
    (try replace HVP := hide (HVP.out.below hb))
    (try replace HVX := hide (HVX.out.below hb))
    (try replace HVV := hide (HVV.out.below hb))
    (try replace HBY := hide (HBY.out.below hb))
    clear hb hS5 a0 a1 a2 x0 x1 x2 x3 bp0 bp1 bp2 bp3 bv0 bv1 bv2 bv3
    have a0 := HBK.out.cell 0 _ rfl
    have a1 := HBK.out.cell 1 _ rfl
    have a2 := HBK.out.cell 2 _ rfl
    have x0 := HBR.out.cell 0 _ rfl
    have x1 := HBR.out.cell 1 _ rfl
    have x2 := HBR.out.cell 2 _ rfl
    have x3 := HBR.out.cell 3 _ rfl
    have bx0 := HBX.out.cell 0 _ rfl
    have bx1 := HBX.out.cell 1 _ rfl
    have bx2 := HBX.out.cell 2 _ rfl
    have bx3 := HBX.out.cell 3 _ rfl
    go_wp2_with (first | (go_at_call 30; refine (may_ref _ _ _ c _ (HC.out.below HB.out)).mono ?_; rintro e wm ⟨rfl, hwm⟩; rw [HMC.out]; have hwn := hwm.symm; subst hwn; clear hwm) | (go_at_call 18; refine (HNO.out _).mono ?_; rintro e wo ⟨rfl, hb⟩; replace HB := hide (bel_next HB.out hb); (try replace HBK := hide (HBK.out.below hb)); (try replace HBR := hide (HBR.out.below hb)); (try replace HBN := hide (HBN.out.below hb)); (try replace HBP := hide (HBP.out.below hb)); (try replace HBX := hide (HBX.out.below hb)); (try replace HBV := hide (HBV.out.below hb)); (try replace HVN := hide (HVN.out.below hb)); (try replace HVP := hide (HVP.out.below hb)); (try replace HVX := hide (HVX.out.below hb)); (try replace HVV := hide (HVV.out.below hb)); (try replace HBY := hide (HBY.out.below hb)); (try replace a0 := bcell hb a0); (try replace a1 := bcell hb a1); (try replace a2 := bcell hb a2); (try replace x0 := bcell hb x0); (try replace x1 := bcell hb x1); (try replace x2 := bcell hb x2); (try replace x3 := bcell hb x3); (try replace bn0 := bcell hb bn0); (try replace bn1 := bcell hb bn1); (try replace bn2 := bcell hb bn2); (try replace bn3 := bcell hb bn3); (try replace bp0 := bcell hb bp0); (try replace bp1 := bcell hb bp1); (try replace bp2 := bcell hb bp2); (try replace bp3 := bcell hb bp3); (try replace bx0 := bcell hb bx0); (try replace bx1 := bcell hb bx1); (try replace bx2 := bcell hb bx2); (try replace bx3 := bcell hb bx3); (try replace bv0 := bcell hb bv0); (try replace bv1 := bcell hb bv1); (try replace bv2 := bcell hb bv2); (try replace bv3 := bcell hb bv3); clear hb) | (go_at_call 9; refine (awake13s _).mono ?_; rintro e wz ⟨rfl, hb⟩; replace HB := hide (bel_next HB.out hb); clear hb))
    go_ret
    exact ⟨rfl, HB.out⟩
   ·refine wp_region_held_drew (S := fun W => Below uwv.heap.size uwv W) (by kernel_rfl) ((Below.refl _ uwv).drew) (fun hS0 => ?_)
    refine tkJ 0 114 hS0 ?_; simp only [ly]
    refine tkJ 1 115 hS0 ?_; simp only [ly]
    refine tkJ 2 116 hS0 ?_; simp only [ly]
    refine tkJ 3 117 hS0 ?_; simp only [ly]
    refine tkJ 4 118 hS0 ?_; simp only [ly]
    refine tkJ 5 119 hS0 ?_; simp only [ly]
    refine tkJ 6 120 hS0 ?_; simp only [ly]
    refine tkL 7 121 hS0 ?h ?_; case h => (intro W hW; have e0 := bcell hW x0; have e1 := bcell hW x1; have e2 := bcell hW x2; have e3 := bcell hW x3; have e4 := bcell hW bp0; have e5 := bcell hW bp1; have e6 := bcell hW bp2; have e7 := bcell hW bp3; have e8 := bcell hW bv0; have e9 := bcell hW bv1; have e10 := bcell hW bv2; have e11 := bcell hW bv3; clear hW; go_simp; try rfl); simp only [ly]
    refine tkL 8 122 hS0 ?h ?_; case h => (intro W hW; have e0 := bcell hW x0; have e1 := bcell hW x1; have e2 := bcell hW x2; have e3 := bcell hW x3; have e4 := bcell hW bp0; have e5 := bcell hW bp1; have e6 := bcell hW bp2; have e7 := bcell hW bp3; have e8 := bcell hW bv0; have e9 := bcell hW bv1; have e10 := bcell hW bv2; have e11 := bcell hW bv3; clear hW; go_simp; try rfl); simp only [ly]
    refine wpAnyH_ready (rs := [9]) (by kernel_rfl) (by simp) ?_
    refine AllReadyH.cons rfl (fun K hK => ?_) AllReadyH.nil
    go_simp
    refine (Same13_ref _ _ _ _ _ _ _ _ _ _ _ _ _ _ _ _ _ _ _ _ _ _ _ _ PW PW _ (HVP.out.below hS0) (HVV.out.below hS0)).mono ?_
    rintro e wy ⟨rfl, hb⟩
    rw [sameW_yes rfl]
    refine hK.out _ _ ?hs120 (fun hS1 => ?_)
    case hs120 => exact bel_next hS0 hb
    clear hK K hb
    try simp only [ly]
    refine tkJ 10 124 hS1 ?_; simp only [ly]
    refine tkJ 11 125 hS1 ?_; simp only [ly]
    refine tkJ 12 126 hS1 ?_; simp only [ly]
    refine tkJ 13 127 hS1 ?_; simp only [ly]
    refine tkL 14 128 hS1 ?h ?_; case h => (intro W hW; have e0 := bcell hW x0; have e1 := bcell hW x1; have e2 := bcell hW x2; have e3 := bcell hW x3; have e4 := bcell hW bp0; have e5 := bcell hW bp1; have e6 := bcell hW bp2; have e7 := bcell hW bp3; have e8 := bcell hW bv0; have e9 := bcell hW bv1; have e10 := bcell hW bv2; have e11 := bcell hW bv3; clear hW; go_simp; try rfl); simp only [ly]
    refine wpAnyH_ready (rs := [15]) (by kernel_rfl) (by simp) ?_
    refine AllReadyH.cons rfl (fun K hK => ?_) AllReadyH.nil
    go_simp
    refine (HBF.out _ _ _ _ _ _ _ _ _ (HVV.out.below hS1)).mono ?_
    rintro e wy ⟨yp2, yc2, rfl, hbs, hb⟩
    have HY2 := hide hbs
    have HY1 := hide (HBY.out.below (bel_next hS1 hb))
    clear hbs
    refine hK.out _ _ ?hs126 (fun hS2 => ?_)
    case hs126 => exact bel_next hS1 hb
    clear hK K hb
    try simp only [ly]
    refine wpAnyH_ready (rs := [16]) (by kernel_rfl) (by simp) ?_
    refine AllReadyH.cons rfl (fun K hK => ?_) AllReadyH.nil
    go_simp
    refine (bytes_as _ _ _ _ _ _ BW BW _ true (decide_eq_true rfl) HY1.out HY2.out).mono ?_
    rintro e wy ⟨rfl, hb⟩
    refine hK.out _ _ ?hs127 (fun hS3 => ?_)
    case hs127 => exact bel_next hS2 hb
    clear hK K hb
    try simp only [ly]
    refine tkJ 17 131 hS3 ?_; simp only [ly]
    refine tkJ 18 132 hS3 ?_; simp only [ly]
    refine tkJ 19 133 hS3 ?_; simp only [ly]
    refine tkL 20 134 hS3 ?h ?_; case h => (intro W hW; have e0 := bcell hW x0; have e1 := bcell hW x1; have e2 := bcell hW x2; have e3 := bcell hW x3; have e4 := bcell hW bp0; have e5 := bcell hW bp1; have e6 := bcell hW bp2; have e7 := bcell hW bp3; have e8 := bcell hW bv0; have e9 := bcell hW bv1; have e10 := bcell hW bv2; have e11 := bcell hW bv3; clear hW; go_simp; try rfl); simp only [ly]
    refine tkL 21 135 hS3 ?h ?_; case h => (intro W hW; have e0 := bcell hW x0; have e1 := bcell hW x1; have e2 := bcell hW x2; have e3 := bcell hW x3; have e4 := bcell hW bp0; have e5 := bcell hW bp1; have e6 := bcell hW bp2; have e7 := bcell hW bp3; have e8 := bcell hW bv0; have e9 := bcell hW bv1; have e10 := bcell hW bv2; have e11 := bcell hW bv3; clear hW; go_simp; try rfl); simp only [ly]
    refine tkL 23 137 hS3 ?h ?_; case h => (intro W hW; have e0 := bcell hW x0; have e1 := bcell hW x1; have e2 := bcell hW x2; have e3 := bcell hW x3; have e4 := bcell hW bp0; have e5 := bcell hW bp1; have e6 := bcell hW bp2; have e7 := bcell hW bp3; have e8 := bcell hW bv0; have e9 := bcell hW bv1; have e10 := bcell hW bv2; have e11 := bcell hW bv3; clear hW; go_simp; try rfl); simp only [ly]
    refine tkL 24 138 hS3 ?h ?_; case h => (intro W hW; have e0 := bcell hW x0; have e1 := bcell hW x1; have e2 := bcell hW x2; have e3 := bcell hW x3; have e4 := bcell hW bp0; have e5 := bcell hW bp1; have e6 := bcell hW bp2; have e7 := bcell hW bp3; have e8 := bcell hW bv0; have e9 := bcell hW bv1; have e10 := bcell hW bv2; have e11 := bcell hW bv3; clear hW; go_simp; try rfl); simp only [ly]
    refine wpAnyH_ready (rs := [22]) (by kernel_rfl) (by simp) ?_
    refine AllReadyH.cons rfl (fun K hK => ?_) AllReadyH.nil
    go_simp
    refine (Same13_any _ _ _ _ _ _ _ _ _ _ _ _ _ _ _ _ _ _ _ _ _ _ _ _ PW r _ (HVP.out.below hS3) (HR.out.below (bel_next HB.out hS3))).mono ?_
    rintro e wy ⟨rfl, hb⟩
    rw [HZP.out]
    refine hK.out _ _ ?hs135 (fun hS4 => ?_)
    case hs135 => exact bel_next hS3 hb
    clear hK K hb
    try simp only [ly]
    refine wpAnyH_ready (rs := [25]) (by kernel_rfl) (by simp) ?_
    refine AllReadyH.cons rfl (fun K hK => ?_) AllReadyH.nil
    go_simp
    refine (Same13_ref _ _ _ _ _ _ _ _ _ _ _ _ _ _ _ _ _ _ _ _ _ _ _ _ PW r _ (HVV.out.below hS4) (HR.out.below (bel_next HB.out hS4))).mono ?_
    rintro e wy ⟨rfl, hb⟩
    rw [HZP.out]
    refine hK.out _ _ ?hs136 (fun hS5 => ?_)
    case hs136 => exact bel_next hS4 hb
    clear hK K hb
    try simp only [ly]
    refine tkJ 26 140 hS5 ?_; simp only [ly]
    refine tkJ 27 141 hS5 ?_; simp only [ly]
    refine wpAnyH_done (by kernel_rfl) ?_ _
    have hb := hS5
    replace HB := hide (bel_next HB.out hb)
    (try replace HBK := hide (HBK.out.below hb))
    (try replace HBR := hide (HBR.out.below hb))
    (try replace HBN := hide (HBN.out.below hb))
    (try replace HBP := hide (HBP.out.below hb))
    (try replace HBX := hide (HBX.out.below hb))
    (try replace HBV := hide (HBV.out.below hb))
    (try replace HVN := hide (HVN.out.below hb))
    (try replace HVP := hide (HVP.out.below hb))
    (try replace HVX := hide (HVX.out.below hb))
    (try replace HVV := hide (HVV.out.below hb))
    (try replace HBY := hide (HBY.out.below hb))
    clear hb hS5 a0 a1 a2 x0 x1 x2 x3 bp0 bp1 bp2 bp3 bv0 bv1 bv2 bv3
    have a0 := HBK.out.cell 0 _ rfl
    have a1 := HBK.out.cell 1 _ rfl
    have a2 := HBK.out.cell 2 _ rfl
    have x0 := HBR.out.cell 0 _ rfl
    have x1 := HBR.out.cell 1 _ rfl
    have x2 := HBR.out.cell 2 _ rfl
    have x3 := HBR.out.cell 3 _ rfl
    have bx0 := HBX.out.cell 0 _ rfl
    have bx1 := HBX.out.cell 1 _ rfl
    have bx2 := HBX.out.cell 2 _ rfl
    have bx3 := HBX.out.cell 3 _ rfl
    go_wp2_with (first | (go_at_call 30; refine (may_ref _ _ _ c _ (HC.out.below HB.out)).mono ?_; rintro e wm ⟨rfl, hwm⟩; rw [HMC.out]; have hwn := hwm.symm; subst hwn; clear hwm) | (go_at_call 18; refine (HNO.out _).mono ?_; rintro e wo ⟨rfl, hb⟩; replace HB := hide (bel_next HB.out hb); (try replace HBK := hide (HBK.out.below hb)); (try replace HBR := hide (HBR.out.below hb)); (try replace HBN := hide (HBN.out.below hb)); (try replace HBP := hide (HBP.out.below hb)); (try replace HBX := hide (HBX.out.below hb)); (try replace HBV := hide (HBV.out.below hb)); (try replace HVN := hide (HVN.out.below hb)); (try replace HVP := hide (HVP.out.below hb)); (try replace HVX := hide (HVX.out.below hb)); (try replace HVV := hide (HVV.out.below hb)); (try replace HBY := hide (HBY.out.below hb)); (try replace a0 := bcell hb a0); (try replace a1 := bcell hb a1); (try replace a2 := bcell hb a2); (try replace x0 := bcell hb x0); (try replace x1 := bcell hb x1); (try replace x2 := bcell hb x2); (try replace x3 := bcell hb x3); (try replace bn0 := bcell hb bn0); (try replace bn1 := bcell hb bn1); (try replace bn2 := bcell hb bn2); (try replace bn3 := bcell hb bn3); (try replace bp0 := bcell hb bp0); (try replace bp1 := bcell hb bp1); (try replace bp2 := bcell hb bp2); (try replace bp3 := bcell hb bp3); (try replace bx0 := bcell hb bx0); (try replace bx1 := bcell hb bx1); (try replace bx2 := bcell hb bx2); (try replace bx3 := bcell hb bx3); (try replace bv0 := bcell hb bv0); (try replace bv1 := bcell hb bv1); (try replace bv2 := bcell hb bv2); (try replace bv3 := bcell hb bv3); clear hb) | (go_at_call 9; refine (awake13s _).mono ?_; rintro e wz ⟨rfl, hb⟩; replace HB := hide (bel_next HB.out hb); clear hb))
    go_ret
    exact ⟨rfl, HB.out⟩
  ·have HCG : Hid (∀ W, KM W ps ns cs pc nc cc k → RM W p1 ns c1 p2 n2 c2 p3 n3 c3 p4 n4 c4 r → NS W pk nk c → Calls Tryz.prog 23 #[.agg #[.slice ps ns cs, .slice pc nc cc, .int .i64 (gn : Int)], .agg #[.slice p1 ns c1, .slice p2 n2 c2, .slice p3 n3 c3, .slice p4 n4 c4], .slice pk nk ck] W fun e w' => ∃ q1 d1 q2 d2 q3 d3 q4 d4, e = .returned (.tuple #[.agg #[.slice q1 ns d1, .slice q2 n2 d2, .slice q3 n3 d3, .slice q4 n4 d4], .int .i64 0]) ∧ RM w' q1 ns d1 q2 n2 d2 q3 n3 d3 q4 n4 d4 (cleanW k r c) ∧ Below W.heap.size W w') := fun W h1 h2 h3 => (Clean13_good _ _ _ _ _ k _ _ _ _ _ _ _ _ _ _ _ _ _ r _ _ _ c W hg h1 h2 h3 HM.out hmc (sz13 HL1.out) (okp13 HL1.out) HN2.out).mono (fun e w' ⟨q1, d1, q2, d2, q3, d3, q4, d4, h, ho, hb⟩ => ⟨q1, d1, q2, d2, q3, d3, q4, d4, h, ho.rm, hb⟩)
   have HCR : Hid (∀ W, KM W ps ns cs pc nc cc k → RM W p1 ns c1 p2 n2 c2 p3 n3 c3 p4 n4 c4 r → NS W pk nk c → Calls Tryz.prog 31 #[.agg #[.slice ps ns cs, .slice pc nc cc, .int .i64 (gn : Int)], .agg #[.slice p1 ns c1, .slice p2 n2 c2, .slice p3 n3 c3, .slice p4 n4 c4], .slice pk nk ck] W fun e w' => ∃ q1 d1 q2 d2 q3 d3 q4 d4, e = .returned (.agg #[.slice q1 ns d1, .slice q2 n2 d2, .slice q3 n3 d3, .slice q4 n4 d4]) ∧ RM w' q1 ns d1 q2 n2 d2 q3 n3 d3 q4 n4 d4 (cleanW k r c) ∧ Below W.heap.size W w') := fun W h1 h2 h3 => (Clean13_ref _ _ _ _ _ k _ _ _ _ _ _ _ _ _ _ _ _ _ r _ _ _ c W h1 h2 h3 HOS.out HN2.out).mono (fun e w' ⟨q1, d1, q2, d2, q3, d3, q4, d4, h, ho, hb⟩ => ⟨q1, d1, q2, d2, q3, d3, q4, d4, h, ho, hb⟩)
   have HMC := hide hmc
   clear hmc HL1
   generalize bytRw (plainW k r) = BW at HBG HBF
   generalize BW.length = zB at HBG HBF
   generalize plainW k r = PW at HPL HPR HBF
   generalize cleanW k r c = CW at HCG HCR
   obtain ⟨bb, hbb⟩ : ∃ bb, sameW PW r = bb := ⟨_, rfl⟩
   have HZP := hide hbb
   clear hbb
   go_upto_region 4 with (go_at_call 21; refine (HNW.out _ (HK.out.below HB.out)).mono ?_; rintro e wn ⟨q1, d1, q2, d2, q3, d3, q4, d4, rfl, hrm, hb⟩; replace HB := hide (bel_next HB.out hb); (try replace HBK := hide (HBK.out.below hb)); (try replace HBR := hide (HBR.out.below hb)); (try replace HBN := hide (HBN.out.below hb)); (try replace HBP := hide (HBP.out.below hb)); (try replace HBX := hide (HBX.out.below hb)); (try replace HBV := hide (HBV.out.below hb)); (try replace HVN := hide (HVN.out.below hb)); (try replace HVP := hide (HVP.out.below hb)); (try replace HVX := hide (HVX.out.below hb)); (try replace HVV := hide (HVV.out.below hb)); (try replace HBY := hide (HBY.out.below hb)); (try replace a0 := bcell hb a0); (try replace a1 := bcell hb a1); (try replace a2 := bcell hb a2); (try replace x0 := bcell hb x0); (try replace x1 := bcell hb x1); (try replace x2 := bcell hb x2); (try replace x3 := bcell hb x3); (try replace bn0 := bcell hb bn0); (try replace bn1 := bcell hb bn1); (try replace bn2 := bcell hb bn2); (try replace bn3 := bcell hb bn3); (try replace bp0 := bcell hb bp0); (try replace bp1 := bcell hb bp1); (try replace bp2 := bcell hb bp2); (try replace bp3 := bcell hb bp3); (try replace bx0 := bcell hb bx0); (try replace bx1 := bcell hb bx1); (try replace bx2 := bcell hb bx2); (try replace bx3 := bcell hb bx3); (try replace bv0 := bcell hb bv0); (try replace bv1 := bcell hb bv1); (try replace bv2 := bcell hb bv2); (try replace bv3 := bcell hb bv3); clear hb; have HVN := hide hrm; clear hrm)
   have hb := bel1 wn (.cells #[.slice q1 ns d1, .slice q2 nc d2, .slice q3 nc d3, .slice q4 gn d4] 31)
   replace HB := hide (bel_next HB.out hb)
   (try replace HBK := hide (HBK.out.below hb))
   (try replace HBR := hide (HBR.out.below hb))
   (try replace HBN := hide (HBN.out.below hb))
   (try replace HBP := hide (HBP.out.below hb))
   (try replace HBX := hide (HBX.out.below hb))
   (try replace HBV := hide (HBV.out.below hb))
   (try replace HVN := hide (HVN.out.below hb))
   (try replace HVP := hide (HVP.out.below hb))
   (try replace HVX := hide (HVX.out.below hb))
   (try replace HVV := hide (HVV.out.below hb))
   (try replace HBY := hide (HBY.out.below hb))
   have HBN : Hid (BX (wn.alloc (.cells #[.slice q1 ns d1, .slice q2 nc d2, .slice q3 nc d3, .slice q4 gn d4] 31)) wn.heap.size #[.slice q1 ns d1, .slice q2 nc d2, .slice q3 nc d3, .slice q4 gn d4] 31) := BX.new wn _ rfl _ _
   clear hb a0 a1 a2 x0 x1 x2 x3
   generalize wn.heap.size = gwn at *
   generalize wn.alloc (.cells #[.slice q1 ns d1, .slice q2 nc d2, .slice q3 nc d3, .slice q4 gn d4] 31) = uwn at *
   have a0 := HBK.out.cell 0 _ rfl
   have a1 := HBK.out.cell 1 _ rfl
   have a2 := HBK.out.cell 2 _ rfl
   have x0 := HBR.out.cell 0 _ rfl
   have x1 := HBR.out.cell 1 _ rfl
   have x2 := HBR.out.cell 2 _ rfl
   have x3 := HBR.out.cell 3 _ rfl
   go_upto_region 5 with (go_at_call 22; refine (HPL.out _ (HK.out.below HB.out) (HR.out.below HB.out)).mono ?_; rintro e wp ⟨m1, o1, m2, o2, m3, o3, m4, o4, rfl, hrm, hb⟩; replace HB := hide (bel_next HB.out hb); (try replace HBK := hide (HBK.out.below hb)); (try replace HBR := hide (HBR.out.below hb)); (try replace HBN := hide (HBN.out.below hb)); (try replace HBP := hide (HBP.out.below hb)); (try replace HBX := hide (HBX.out.below hb)); (try replace HBV := hide (HBV.out.below hb)); (try replace HVN := hide (HVN.out.below hb)); (try replace HVP := hide (HVP.out.below hb)); (try replace HVX := hide (HVX.out.below hb)); (try replace HVV := hide (HVV.out.below hb)); (try replace HBY := hide (HBY.out.below hb)); (try replace a0 := bcell hb a0); (try replace a1 := bcell hb a1); (try replace a2 := bcell hb a2); (try replace x0 := bcell hb x0); (try replace x1 := bcell hb x1); (try replace x2 := bcell hb x2); (try replace x3 := bcell hb x3); (try replace bn0 := bcell hb bn0); (try replace bn1 := bcell hb bn1); (try replace bn2 := bcell hb bn2); (try replace bn3 := bcell hb bn3); (try replace bp0 := bcell hb bp0); (try replace bp1 := bcell hb bp1); (try replace bp2 := bcell hb bp2); (try replace bp3 := bcell hb bp3); (try replace bx0 := bcell hb bx0); (try replace bx1 := bcell hb bx1); (try replace bx2 := bcell hb bx2); (try replace bx3 := bcell hb bx3); (try replace bv0 := bcell hb bv0); (try replace bv1 := bcell hb bv1); (try replace bv2 := bcell hb bv2); (try replace bv3 := bcell hb bv3); clear hb; have HVP := hide hrm; clear hrm)
   have hb := bel1 wp (.cells #[.slice m1 ns o1, .slice m2 n2 o2, .slice m3 n3 o3, .slice m4 n4 o4] 31)
   replace HB := hide (bel_next HB.out hb)
   (try replace HBK := hide (HBK.out.below hb))
   (try replace HBR := hide (HBR.out.below hb))
   (try replace HBN := hide (HBN.out.below hb))
   (try replace HBP := hide (HBP.out.below hb))
   (try replace HBX := hide (HBX.out.below hb))
   (try replace HBV := hide (HBV.out.below hb))
   (try replace HVN := hide (HVN.out.below hb))
   (try replace HVP := hide (HVP.out.below hb))
   (try replace HVX := hide (HVX.out.below hb))
   (try replace HVV := hide (HVV.out.below hb))
   (try replace HBY := hide (HBY.out.below hb))
   have HBP : Hid (BX (wp.alloc (.cells #[.slice m1 ns o1, .slice m2 n2 o2, .slice m3 n3 o3, .slice m4 n4 o4] 31)) wp.heap.size #[.slice m1 ns o1, .slice m2 n2 o2, .slice m3 n3 o3, .slice m4 n4 o4] 31) := BX.new wp _ rfl _ _
   clear hb a0 a1 a2 x0 x1 x2 x3
   generalize wp.heap.size = gwp at *
   generalize wp.alloc (.cells #[.slice m1 ns o1, .slice m2 n2 o2, .slice m3 n3 o3, .slice m4 n4 o4] 31) = uwp at *
   have a0 := HBK.out.cell 0 _ rfl
   have a1 := HBK.out.cell 1 _ rfl
   have a2 := HBK.out.cell 2 _ rfl
   have x0 := HBR.out.cell 0 _ rfl
   have x1 := HBR.out.cell 1 _ rfl
   have x2 := HBR.out.cell 2 _ rfl
   have x3 := HBR.out.cell 3 _ rfl
   go_upto_region 6 with (go_at_call 23; refine (HCG.out _ (HK.out.below HB.out) (HR.out.below HB.out) (HC.out.below HB.out)).mono ?_; rintro e wx ⟨s1, t1, s2, t2, s3, t3, s4, t4, rfl, hrm, hb⟩; replace HB := hide (bel_next HB.out hb); (try replace HBK := hide (HBK.out.below hb)); (try replace HBR := hide (HBR.out.below hb)); (try replace HBN := hide (HBN.out.below hb)); (try replace HBP := hide (HBP.out.below hb)); (try replace HBX := hide (HBX.out.below hb)); (try replace HBV := hide (HBV.out.below hb)); (try replace HVN := hide (HVN.out.below hb)); (try replace HVP := hide (HVP.out.below hb)); (try replace HVX := hide (HVX.out.below hb)); (try replace HVV := hide (HVV.out.below hb)); (try replace HBY := hide (HBY.out.below hb)); (try replace a0 := bcell hb a0); (try replace a1 := bcell hb a1); (try replace a2 := bcell hb a2); (try replace x0 := bcell hb x0); (try replace x1 := bcell hb x1); (try replace x2 := bcell hb x2); (try replace x3 := bcell hb x3); (try replace bn0 := bcell hb bn0); (try replace bn1 := bcell hb bn1); (try replace bn2 := bcell hb bn2); (try replace bn3 := bcell hb bn3); (try replace bp0 := bcell hb bp0); (try replace bp1 := bcell hb bp1); (try replace bp2 := bcell hb bp2); (try replace bp3 := bcell hb bp3); (try replace bx0 := bcell hb bx0); (try replace bx1 := bcell hb bx1); (try replace bx2 := bcell hb bx2); (try replace bx3 := bcell hb bx3); (try replace bv0 := bcell hb bv0); (try replace bv1 := bcell hb bv1); (try replace bv2 := bcell hb bv2); (try replace bv3 := bcell hb bv3); clear hb; have HVX := hide hrm; clear hrm)
   have hb := bel1 wx (.cells #[.slice s1 ns t1, .slice s2 n2 t2, .slice s3 n3 t3, .slice s4 n4 t4] 31)
   replace HB := hide (bel_next HB.out hb)
   (try replace HBK := hide (HBK.out.below hb))
   (try replace HBR := hide (HBR.out.below hb))
   (try replace HBN := hide (HBN.out.below hb))
   (try replace HBP := hide (HBP.out.below hb))
   (try replace HBX := hide (HBX.out.below hb))
   (try replace HBV := hide (HBV.out.below hb))
   (try replace HVN := hide (HVN.out.below hb))
   (try replace HVP := hide (HVP.out.below hb))
   (try replace HVX := hide (HVX.out.below hb))
   (try replace HVV := hide (HVV.out.below hb))
   (try replace HBY := hide (HBY.out.below hb))
   have HBX : Hid (BX (wx.alloc (.cells #[.slice s1 ns t1, .slice s2 n2 t2, .slice s3 n3 t3, .slice s4 n4 t4] 31)) wx.heap.size #[.slice s1 ns t1, .slice s2 n2 t2, .slice s3 n3 t3, .slice s4 n4 t4] 31) := BX.new wx _ rfl _ _
   clear hb a0 a1 a2 x0 x1 x2 x3
   generalize wx.heap.size = gwx at *
   generalize wx.alloc (.cells #[.slice s1 ns t1, .slice s2 n2 t2, .slice s3 n3 t3, .slice s4 n4 t4] 31) = uwx at *
   have a0 := HBK.out.cell 0 _ rfl
   have a1 := HBK.out.cell 1 _ rfl
   have a2 := HBK.out.cell 2 _ rfl
   have x0 := HBR.out.cell 0 _ rfl
   have x1 := HBR.out.cell 1 _ rfl
   have x2 := HBR.out.cell 2 _ rfl
   have x3 := HBR.out.cell 3 _ rfl
   go_upto_region 7 with (go_at_call 24; refine (HBG.out _ (HK.out.below HB.out) (HR.out.below HB.out)).mono ?_; rintro e wb ⟨yp, yc, rfl, hbs, hb⟩; replace HB := hide (bel_next HB.out hb); (try replace HBK := hide (HBK.out.below hb)); (try replace HBR := hide (HBR.out.below hb)); (try replace HBN := hide (HBN.out.below hb)); (try replace HBP := hide (HBP.out.below hb)); (try replace HBX := hide (HBX.out.below hb)); (try replace HBV := hide (HBV.out.below hb)); (try replace HVN := hide (HVN.out.below hb)); (try replace HVP := hide (HVP.out.below hb)); (try replace HVX := hide (HVX.out.below hb)); (try replace HVV := hide (HVV.out.below hb)); (try replace HBY := hide (HBY.out.below hb)); (try replace a0 := bcell hb a0); (try replace a1 := bcell hb a1); (try replace a2 := bcell hb a2); (try replace x0 := bcell hb x0); (try replace x1 := bcell hb x1); (try replace x2 := bcell hb x2); (try replace x3 := bcell hb x3); (try replace bn0 := bcell hb bn0); (try replace bn1 := bcell hb bn1); (try replace bn2 := bcell hb bn2); (try replace bn3 := bcell hb bn3); (try replace bp0 := bcell hb bp0); (try replace bp1 := bcell hb bp1); (try replace bp2 := bcell hb bp2); (try replace bp3 := bcell hb bp3); (try replace bx0 := bcell hb bx0); (try replace bx1 := bcell hb bx1); (try replace bx2 := bcell hb bx2); (try replace bx3 := bcell hb bx3); (try replace bv0 := bcell hb bv0); (try replace bv1 := bcell hb bv1); (try replace bv2 := bcell hb bv2); (try replace bv3 := bcell hb bv3); clear hb; have HBY := hide hbs; clear hbs)
   have bn0 := HBN.out.cell 0 _ rfl
   have bn1 := HBN.out.cell 1 _ rfl
   have bn2 := HBN.out.cell 2 _ rfl
   have bn3 := HBN.out.cell 3 _ rfl
   refine wp_region_held_drew (S := fun W => Below wb.heap.size wb W) (by kernel_rfl) ((Below.refl _ wb).drew) (fun hS0 => ?_)
   refine tkL 0 50 hS0 ?h ?_; case h => (intro W hW; have e0 := bcell hW a0; have e1 := bcell hW a1; have e2 := bcell hW a2; have e3 := bcell hW x0; have e4 := bcell hW x1; have e5 := bcell hW x2; have e6 := bcell hW x3; have e7 := bcell hW bn0; have e8 := bcell hW bn1; have e9 := bcell hW bn2; have e10 := bcell hW bn3; clear hW; go_simp; try rfl); simp only [ly]
   refine tkL 1 51 hS0 ?h ?_; case h => (intro W hW; have e0 := bcell hW a0; have e1 := bcell hW a1; have e2 := bcell hW a2; have e3 := bcell hW x0; have e4 := bcell hW x1; have e5 := bcell hW x2; have e6 := bcell hW x3; have e7 := bcell hW bn0; have e8 := bcell hW bn1; have e9 := bcell hW bn2; have e10 := bcell hW bn3; clear hW; go_simp; try rfl); simp only [ly]
   refine wpAnyH_ready (rs := [2]) (by kernel_rfl) (by simp) ?_
   refine AllReadyH.cons rfl (fun K hK => ?_) AllReadyH.nil
   go_simp
   refine (Same13_any _ _ _ _ _ _ _ _ _ _ _ _ _ _ _ _ _ _ _ _ _ _ _ _ r r _ (HR.out.below (bel_next HB.out hS0)) (HR.out.below (bel_next HB.out hS0))).mono ?_
   rintro e wy ⟨rfl, hb⟩
   rw [HZR.out]
   refine hK.out _ _ ?hs141 (fun hS1 => ?_)
   case hs141 => exact bel_next hS0 hb
   clear hK K hb
   try simp only [ly]
   refine tkJ 3 53 hS1 ?_; simp only [ly]
   refine tkJ 4 54 hS1 ?_; simp only [ly]
   refine tkL 5 55 hS1 ?h ?_; case h => (intro W hW; have e0 := bcell hW a0; have e1 := bcell hW a1; have e2 := bcell hW a2; have e3 := bcell hW x0; have e4 := bcell hW x1; have e5 := bcell hW x2; have e6 := bcell hW x3; have e7 := bcell hW bn0; have e8 := bcell hW bn1; have e9 := bcell hW bn2; have e10 := bcell hW bn3; clear hW; go_simp; try rfl); simp only [ly]
   refine tkJ 7 57 hS1 ?_; simp only [ly]
   refine tkJ 8 58 hS1 ?_; simp only [ly]
   refine wpAnyH_ready (rs := [6]) (by kernel_rfl) (by simp) ?_
   refine AllReadyH.cons rfl (fun K hK => ?_) AllReadyH.nil
   go_simp
   refine (Kinds13_ref _ _ _ _ _ _ k _ _ hg (HK.out.below (bel_next HB.out hS1))).mono ?_
   rintro e wy ⟨rfl, hb⟩
   rw [HKB.out]
   refine hK.out _ _ ?hs147 (fun hS2 => ?_)
   case hs147 => exact bel_next hS1 hb
   clear hK K hb
   try simp only [ly]
   refine tkJ 9 59 hS2 ?_; simp only [ly]
   refine tkJ 10 60 hS2 ?_; simp only [ly]
   refine tkJ 11 61 hS2 ?_; simp only [ly]
   refine tkJ 12 62 hS2 ?_; simp only [ly]
   refine tkJ 13 63 hS2 ?_; simp only [ly]
   refine tkJ 14 64 hS2 ?_; simp only [ly]
   refine tkL 15 65 hS2 ?h ?_; case h => (intro W hW; have e0 := bcell hW a0; have e1 := bcell hW a1; have e2 := bcell hW a2; have e3 := bcell hW x0; have e4 := bcell hW x1; have e5 := bcell hW x2; have e6 := bcell hW x3; have e7 := bcell hW bn0; have e8 := bcell hW bn1; have e9 := bcell hW bn2; have e10 := bcell hW bn3; clear hW; go_simp; try rfl); simp only [ly]
   refine tkL 16 66 hS2 ?h ?_; case h => (intro W hW; have e0 := bcell hW a0; have e1 := bcell hW a1; have e2 := bcell hW a2; have e3 := bcell hW x0; have e4 := bcell hW x1; have e5 := bcell hW x2; have e6 := bcell hW x3; have e7 := bcell hW bn0; have e8 := bcell hW bn1; have e9 := bcell hW bn2; have e10 := bcell hW bn3; clear hW; go_simp; try rfl); simp only [ly]
   refine wpAnyH_ready (rs := [17]) (by kernel_rfl) (by simp) ?_
   refine AllReadyH.cons rfl (fun K hK => ?_) AllReadyH.nil
   go_simp
   refine (New13_ref _ _ _ _ _ _ k gn _ hg (HK.out.below (bel_next HB.out hS2)) HKB.out).mono ?_
   rintro e wy ⟨e1, f1, e2, f2, e3, f3, e4, f4, hs1, hs2, hs3, hs4, rfl, how, hrh, hb⟩
   have HVE := hide (OO.rm ⟨hs1, hs2, hs3, hs4, how, hrh⟩)
   clear how hrh
   refine hK.out _ _ ?hs156 (fun hS3 => ?_)
   case hs156 => exact bel_next hS2 hb
   clear hK K hb
   try simp only [ly]
   refine wpAnyH_ready (rs := [18]) (by kernel_rfl) (by simp) ?_
   refine AllReadyH.cons rfl (fun K hK => ?_) AllReadyH.nil
   go_simp
   refine (Same13_ref _ _ _ _ _ _ _ _ _ _ _ _ _ _ _ _ _ _ _ _ _ _ _ _ (newW k) (newW k) _ (HVN.out.below hS3) HVE.out).mono ?_
   rintro e wy ⟨rfl, hb⟩
   rw [sameW_yes rfl]
   refine hK.out _ _ ?hs157 (fun hS4 => ?_)
   case hs157 => exact bel_next hS3 hb
   clear hK K hb
   try simp only [ly]
   refine tkJ 19 69 hS4 ?_; simp only [ly]
   refine tkJ 20 70 hS4 ?_; simp only [ly]
   refine tkJ 21 71 hS4 ?_; simp only [ly]
   refine tkJ 22 72 hS4 ?_; simp only [ly]
   refine tkJ 23 73 hS4 ?_; simp only [ly]
   refine tkJ 24 74 hS4 ?_; simp only [ly]
   refine tkJ 25 75 hS4 ?_; simp only [ly]
   refine tkM 26 76 hS4 ?_; simp only [ly]
   refine tkM 27 77 hS4 ?_; simp only [ly]
   refine tkM 28 78 hS4 ?_; simp only [ly]
   refine tkJ 29 79 hS4 ?_; simp only [ly]
   refine tkJ 30 80 hS4 ?_; simp only [ly]
   refine wpAnyH_done (by kernel_rfl) ?_ _
   have hb := hS4
   replace HB := hide (bel_next HB.out hb)
   (try replace HBK := hide (HBK.out.below hb))
   (try replace HBR := hide (HBR.out.below hb))
   (try replace HBN := hide (HBN.out.below hb))
   (try replace HBP := hide (HBP.out.below hb))
   (try replace HBX := hide (HBX.out.below hb))
   (try replace HBV := hide (HBV.out.below hb))
   (try replace HVN := hide (HVN.out.below hb))
   (try replace HVP := hide (HVP.out.below hb))
   (try replace HVX := hide (HVX.out.below hb))
   (try replace HVV := hide (HVV.out.below hb))
   (try replace HBY := hide (HBY.out.below hb))
   clear hb hS4 a0 a1 a2 x0 x1 x2 x3 bn0 bn1 bn2 bn3
   have a0 := HBK.out.cell 0 _ rfl
   have a1 := HBK.out.cell 1 _ rfl
   have a2 := HBK.out.cell 2 _ rfl
   have x0 := HBR.out.cell 0 _ rfl
   have x1 := HBR.out.cell 1 _ rfl
   have x2 := HBR.out.cell 2 _ rfl
   have x3 := HBR.out.cell 3 _ rfl
   go_upto_region 11 with (go_at_call 10; refine (May13_ref _ _ _ _ _ _ k _ _ _ _ _ _ _ _ _ _ _ _ _ r _ hg (HK.out.below HB.out) (HR.out.below HB.out) HBD.out).mono ?_; rintro e wm ⟨rfl, hb⟩; rw [HM.out]; replace HB := hide (bel_next HB.out hb); (try replace HBK := hide (HBK.out.below hb)); (try replace HBR := hide (HBR.out.below hb)); (try replace HBN := hide (HBN.out.below hb)); (try replace HBP := hide (HBP.out.below hb)); (try replace HBX := hide (HBX.out.below hb)); (try replace HBV := hide (HBV.out.below hb)); (try replace HVN := hide (HVN.out.below hb)); (try replace HVP := hide (HVP.out.below hb)); (try replace HVX := hide (HVX.out.below hb)); (try replace HVV := hide (HVV.out.below hb)); (try replace HBY := hide (HBY.out.below hb)); (try replace a0 := bcell hb a0); (try replace a1 := bcell hb a1); (try replace a2 := bcell hb a2); (try replace x0 := bcell hb x0); (try replace x1 := bcell hb x1); (try replace x2 := bcell hb x2); (try replace x3 := bcell hb x3); (try replace bn0 := bcell hb bn0); (try replace bn1 := bcell hb bn1); (try replace bn2 := bcell hb bn2); (try replace bn3 := bcell hb bn3); (try replace bp0 := bcell hb bp0); (try replace bp1 := bcell hb bp1); (try replace bp2 := bcell hb bp2); (try replace bp3 := bcell hb bp3); (try replace bx0 := bcell hb bx0); (try replace bx1 := bcell hb bx1); (try replace bx2 := bcell hb bx2); (try replace bx3 := bcell hb bx3); (try replace bv0 := bcell hb bv0); (try replace bv1 := bcell hb bv1); (try replace bv2 := bcell hb bv2); (try replace bv3 := bcell hb bv3); clear hb)
   go_upto_region 12 with (go_at_call 27; refine (HPR.out _ (HK.out.below HB.out) (HR.out.below HB.out)).mono ?_; rintro e wv ⟨i1, j1, i2, j2, i3, j3, i4, j4, rfl, hrm, hb⟩; replace HB := hide (bel_next HB.out hb); (try replace HBK := hide (HBK.out.below hb)); (try replace HBR := hide (HBR.out.below hb)); (try replace HBN := hide (HBN.out.below hb)); (try replace HBP := hide (HBP.out.below hb)); (try replace HBX := hide (HBX.out.below hb)); (try replace HBV := hide (HBV.out.below hb)); (try replace HVN := hide (HVN.out.below hb)); (try replace HVP := hide (HVP.out.below hb)); (try replace HVX := hide (HVX.out.below hb)); (try replace HVV := hide (HVV.out.below hb)); (try replace HBY := hide (HBY.out.below hb)); (try replace a0 := bcell hb a0); (try replace a1 := bcell hb a1); (try replace a2 := bcell hb a2); (try replace x0 := bcell hb x0); (try replace x1 := bcell hb x1); (try replace x2 := bcell hb x2); (try replace x3 := bcell hb x3); (try replace bn0 := bcell hb bn0); (try replace bn1 := bcell hb bn1); (try replace bn2 := bcell hb bn2); (try replace bn3 := bcell hb bn3); (try replace bp0 := bcell hb bp0); (try replace bp1 := bcell hb bp1); (try replace bp2 := bcell hb bp2); (try replace bp3 := bcell hb bp3); (try replace bx0 := bcell hb bx0); (try replace bx1 := bcell hb bx1); (try replace bx2 := bcell hb bx2); (try replace bx3 := bcell hb bx3); (try replace bv0 := bcell hb bv0); (try replace bv1 := bcell hb bv1); (try replace bv2 := bcell hb bv2); (try replace bv3 := bcell hb bv3); clear hb; have HVV := hide hrm; clear hrm)
   have hb := bel1 wv (.cells #[.slice i1 ns j1, .slice i2 n2 j2, .slice i3 n3 j3, .slice i4 n4 j4] 31)
   replace HB := hide (bel_next HB.out hb)
   (try replace HBK := hide (HBK.out.below hb))
   (try replace HBR := hide (HBR.out.below hb))
   (try replace HBN := hide (HBN.out.below hb))
   (try replace HBP := hide (HBP.out.below hb))
   (try replace HBX := hide (HBX.out.below hb))
   (try replace HBV := hide (HBV.out.below hb))
   (try replace HVN := hide (HVN.out.below hb))
   (try replace HVP := hide (HVP.out.below hb))
   (try replace HVX := hide (HVX.out.below hb))
   (try replace HVV := hide (HVV.out.below hb))
   (try replace HBY := hide (HBY.out.below hb))
   have HBV : Hid (BX (wv.alloc (.cells #[.slice i1 ns j1, .slice i2 n2 j2, .slice i3 n3 j3, .slice i4 n4 j4] 31)) wv.heap.size #[.slice i1 ns j1, .slice i2 n2 j2, .slice i3 n3 j3, .slice i4 n4 j4] 31) := BX.new wv _ rfl _ _
   clear hb a0 a1 a2 x0 x1 x2 x3
   generalize wv.heap.size = gwv at *
   generalize wv.alloc (.cells #[.slice i1 ns j1, .slice i2 n2 j2, .slice i3 n3 j3, .slice i4 n4 j4] 31) = uwv at *
   have a0 := HBK.out.cell 0 _ rfl
   have a1 := HBK.out.cell 1 _ rfl
   have a2 := HBK.out.cell 2 _ rfl
   have x0 := HBR.out.cell 0 _ rfl
   have x1 := HBR.out.cell 1 _ rfl
   have x2 := HBR.out.cell 2 _ rfl
   have x3 := HBR.out.cell 3 _ rfl
   have HBZ := HBV
   have bp0 := HBP.out.cell 0 _ rfl
   have bp1 := HBP.out.cell 1 _ rfl
   have bp2 := HBP.out.cell 2 _ rfl
   have bp3 := HBP.out.cell 3 _ rfl
   have bv0 := HBV.out.cell 0 _ rfl
   have bv1 := HBV.out.cell 1 _ rfl
   have bv2 := HBV.out.cell 2 _ rfl
   have bv3 := HBV.out.cell 3 _ rfl
   cases bb
   ·refine wp_region_held_drew (S := fun W => Below uwv.heap.size uwv W) (by kernel_rfl) ((Below.refl _ uwv).drew) (fun hS0 => ?_)
    refine tkJ 0 114 hS0 ?_; simp only [ly]
    refine tkJ 1 115 hS0 ?_; simp only [ly]
    refine tkJ 2 116 hS0 ?_; simp only [ly]
    refine tkJ 3 117 hS0 ?_; simp only [ly]
    refine tkJ 4 118 hS0 ?_; simp only [ly]
    refine tkJ 5 119 hS0 ?_; simp only [ly]
    refine tkJ 6 120 hS0 ?_; simp only [ly]
    refine tkL 7 121 hS0 ?h ?_; case h => (intro W hW; have e0 := bcell hW x0; have e1 := bcell hW x1; have e2 := bcell hW x2; have e3 := bcell hW x3; have e4 := bcell hW bp0; have e5 := bcell hW bp1; have e6 := bcell hW bp2; have e7 := bcell hW bp3; have e8 := bcell hW bv0; have e9 := bcell hW bv1; have e10 := bcell hW bv2; have e11 := bcell hW bv3; clear hW; go_simp; try rfl); simp only [ly]
    refine tkL 8 122 hS0 ?h ?_; case h => (intro W hW; have e0 := bcell hW x0; have e1 := bcell hW x1; have e2 := bcell hW x2; have e3 := bcell hW x3; have e4 := bcell hW bp0; have e5 := bcell hW bp1; have e6 := bcell hW bp2; have e7 := bcell hW bp3; have e8 := bcell hW bv0; have e9 := bcell hW bv1; have e10 := bcell hW bv2; have e11 := bcell hW bv3; clear hW; go_simp; try rfl); simp only [ly]
    refine wpAnyH_ready (rs := [9]) (by kernel_rfl) (by simp) ?_
    refine AllReadyH.cons rfl (fun K hK => ?_) AllReadyH.nil
    go_simp
    refine (Same13_ref _ _ _ _ _ _ _ _ _ _ _ _ _ _ _ _ _ _ _ _ _ _ _ _ PW PW _ (HVP.out.below hS0) (HVV.out.below hS0)).mono ?_
    rintro e wy ⟨rfl, hb⟩
    rw [sameW_yes rfl]
    refine hK.out _ _ ?hs176 (fun hS1 => ?_)
    case hs176 => exact bel_next hS0 hb
    clear hK K hb
    try simp only [ly]
    refine tkJ 10 124 hS1 ?_; simp only [ly]
    refine tkJ 11 125 hS1 ?_; simp only [ly]
    refine tkJ 12 126 hS1 ?_; simp only [ly]
    refine tkJ 13 127 hS1 ?_; simp only [ly]
    refine tkL 14 128 hS1 ?h ?_; case h => (intro W hW; have e0 := bcell hW x0; have e1 := bcell hW x1; have e2 := bcell hW x2; have e3 := bcell hW x3; have e4 := bcell hW bp0; have e5 := bcell hW bp1; have e6 := bcell hW bp2; have e7 := bcell hW bp3; have e8 := bcell hW bv0; have e9 := bcell hW bv1; have e10 := bcell hW bv2; have e11 := bcell hW bv3; clear hW; go_simp; try rfl); simp only [ly]
    refine wpAnyH_ready (rs := [15]) (by kernel_rfl) (by simp) ?_
    refine AllReadyH.cons rfl (fun K hK => ?_) AllReadyH.nil
    go_simp
    refine (HBF.out _ _ _ _ _ _ _ _ _ (HVV.out.below hS1)).mono ?_
    rintro e wy ⟨yp2, yc2, rfl, hbs, hb⟩
    have HY2 := hide hbs
    have HY1 := hide (HBY.out.below (bel_next hS1 hb))
    clear hbs
    refine hK.out _ _ ?hs182 (fun hS2 => ?_)
    case hs182 => exact bel_next hS1 hb
    clear hK K hb
    try simp only [ly]
    refine wpAnyH_ready (rs := [16]) (by kernel_rfl) (by simp) ?_
    refine AllReadyH.cons rfl (fun K hK => ?_) AllReadyH.nil
    go_simp
    refine (bytes_as _ _ _ _ _ _ BW BW _ true (decide_eq_true rfl) HY1.out HY2.out).mono ?_
    rintro e wy ⟨rfl, hb⟩
    refine hK.out _ _ ?hs183 (fun hS3 => ?_)
    case hs183 => exact bel_next hS2 hb
    clear hK K hb
    try simp only [ly]
    refine tkJ 17 131 hS3 ?_; simp only [ly]
    refine tkJ 18 132 hS3 ?_; simp only [ly]
    refine tkJ 19 133 hS3 ?_; simp only [ly]
    refine tkL 20 134 hS3 ?h ?_; case h => (intro W hW; have e0 := bcell hW x0; have e1 := bcell hW x1; have e2 := bcell hW x2; have e3 := bcell hW x3; have e4 := bcell hW bp0; have e5 := bcell hW bp1; have e6 := bcell hW bp2; have e7 := bcell hW bp3; have e8 := bcell hW bv0; have e9 := bcell hW bv1; have e10 := bcell hW bv2; have e11 := bcell hW bv3; clear hW; go_simp; try rfl); simp only [ly]
    refine tkL 21 135 hS3 ?h ?_; case h => (intro W hW; have e0 := bcell hW x0; have e1 := bcell hW x1; have e2 := bcell hW x2; have e3 := bcell hW x3; have e4 := bcell hW bp0; have e5 := bcell hW bp1; have e6 := bcell hW bp2; have e7 := bcell hW bp3; have e8 := bcell hW bv0; have e9 := bcell hW bv1; have e10 := bcell hW bv2; have e11 := bcell hW bv3; clear hW; go_simp; try rfl); simp only [ly]
    refine tkL 23 137 hS3 ?h ?_; case h => (intro W hW; have e0 := bcell hW x0; have e1 := bcell hW x1; have e2 := bcell hW x2; have e3 := bcell hW x3; have e4 := bcell hW bp0; have e5 := bcell hW bp1; have e6 := bcell hW bp2; have e7 := bcell hW bp3; have e8 := bcell hW bv0; have e9 := bcell hW bv1; have e10 := bcell hW bv2; have e11 := bcell hW bv3; clear hW; go_simp; try rfl); simp only [ly]
    refine tkL 24 138 hS3 ?h ?_; case h => (intro W hW; have e0 := bcell hW x0; have e1 := bcell hW x1; have e2 := bcell hW x2; have e3 := bcell hW x3; have e4 := bcell hW bp0; have e5 := bcell hW bp1; have e6 := bcell hW bp2; have e7 := bcell hW bp3; have e8 := bcell hW bv0; have e9 := bcell hW bv1; have e10 := bcell hW bv2; have e11 := bcell hW bv3; clear hW; go_simp; try rfl); simp only [ly]
    refine wpAnyH_ready (rs := [22]) (by kernel_rfl) (by simp) ?_
    refine AllReadyH.cons rfl (fun K hK => ?_) AllReadyH.nil
    go_simp
    refine (Same13_any _ _ _ _ _ _ _ _ _ _ _ _ _ _ _ _ _ _ _ _ _ _ _ _ PW r _ (HVP.out.below hS3) (HR.out.below (bel_next HB.out hS3))).mono ?_
    rintro e wy ⟨rfl, hb⟩
    rw [HZP.out]
    refine hK.out _ _ ?hs191 (fun hS4 => ?_)
    case hs191 => exact bel_next hS3 hb
    clear hK K hb
    try simp only [ly]
    refine wpAnyH_ready (rs := [25]) (by kernel_rfl) (by simp) ?_
    refine AllReadyH.cons rfl (fun K hK => ?_) AllReadyH.nil
    go_simp
    refine (Same13_ref _ _ _ _ _ _ _ _ _ _ _ _ _ _ _ _ _ _ _ _ _ _ _ _ PW r _ (HVV.out.below hS4) (HR.out.below (bel_next HB.out hS4))).mono ?_
    rintro e wy ⟨rfl, hb⟩
    rw [HZP.out]
    refine hK.out _ _ ?hs192 (fun hS5 => ?_)
    case hs192 => exact bel_next hS4 hb
    clear hK K hb
    try simp only [ly]
    refine tkJ 26 140 hS5 ?_; simp only [ly]
    refine tkJ 27 141 hS5 ?_; simp only [ly]
    refine wpAnyH_done (by kernel_rfl) ?_ _
    have hb := hS5
    replace HB := hide (bel_next HB.out hb)
    (try replace HBK := hide (HBK.out.below hb))
    (try replace HBR := hide (HBR.out.below hb))
    (try replace HBN := hide (HBN.out.below hb))
    (try replace HBP := hide (HBP.out.below hb))
    (try replace HBX := hide (HBX.out.below hb))
    (try replace HBV := hide (HBV.out.below hb))
    (try replace HVN := hide (HVN.out.below hb))
    (try replace HVP := hide (HVP.out.below hb))
    (try replace HVX := hide (HVX.out.below hb))
    (try replace HVV := hide (HVV.out.below hb))
    (try replace HBY := hide (HBY.out.below hb))
    clear hb hS5 a0 a1 a2 x0 x1 x2 x3 bp0 bp1 bp2 bp3 bv0 bv1 bv2 bv3
    generalize hww : wy = u16 at *
    clear hww
    have a0 := HBK.out.cell 0 _ rfl
    have a1 := HBK.out.cell 1 _ rfl
    have a2 := HBK.out.cell 2 _ rfl
    have x0 := HBR.out.cell 0 _ rfl
    have x1 := HBR.out.cell 1 _ rfl
    have x2 := HBR.out.cell 2 _ rfl
    have x3 := HBR.out.cell 3 _ rfl
    have bx0 := HBX.out.cell 0 _ rfl
    have bx1 := HBX.out.cell 1 _ rfl
    have bx2 := HBX.out.cell 2 _ rfl
    have bx3 := HBX.out.cell 3 _ rfl
    go_upto_region 16 with (go_at_call 30; refine (may_ref _ _ _ c _ (HC.out.below HB.out)).mono ?_; rintro e wm ⟨rfl, hwm⟩; rw [HMC.out]; have hwn := hwm.symm; subst hwn; clear hwm)
    refine wp_region_held_drew (S := fun W => Below u16.heap.size u16 W) (by kernel_rfl) ((Below.refl _ u16).drew) (fun hS0 => ?_)
    refine tkJ 0 154 hS0 ?_; simp only [ly]
    refine tkJ 1 155 hS0 ?_; simp only [ly]
    refine tkJ 2 156 hS0 ?_; simp only [ly]
    refine tkL 3 157 hS0 ?h ?_; case h => (intro W hW; have e0 := bcell hW a0; have e1 := bcell hW a1; have e2 := bcell hW a2; have e3 := bcell hW x0; have e4 := bcell hW x1; have e5 := bcell hW x2; have e6 := bcell hW x3; have e7 := bcell hW bx0; have e8 := bcell hW bx1; have e9 := bcell hW bx2; have e10 := bcell hW bx3; clear hW; go_simp; try rfl); simp only [ly]
    refine tkL 4 158 hS0 ?h ?_; case h => (intro W hW; have e0 := bcell hW a0; have e1 := bcell hW a1; have e2 := bcell hW a2; have e3 := bcell hW x0; have e4 := bcell hW x1; have e5 := bcell hW x2; have e6 := bcell hW x3; have e7 := bcell hW bx0; have e8 := bcell hW bx1; have e9 := bcell hW bx2; have e10 := bcell hW bx3; clear hW; go_simp; try rfl); simp only [ly]
    refine tkL 5 159 hS0 ?h ?_; case h => (intro W hW; have e0 := bcell hW a0; have e1 := bcell hW a1; have e2 := bcell hW a2; have e3 := bcell hW x0; have e4 := bcell hW x1; have e5 := bcell hW x2; have e6 := bcell hW x3; have e7 := bcell hW bx0; have e8 := bcell hW bx1; have e9 := bcell hW bx2; have e10 := bcell hW bx3; clear hW; go_simp; try rfl); simp only [ly]
    refine tkJ 6 160 hS0 ?_; simp only [ly]
    refine wpAnyH_ready (rs := [7]) (by kernel_rfl) (by simp) ?_
    refine AllReadyH.cons rfl (fun K hK => ?_) AllReadyH.nil
    go_simp
    refine (HCR.out _ (HK.out.below (bel_next HB.out hS0)) (HR.out.below (bel_next HB.out hS0)) (HC.out.below (bel_next HB.out hS0))).mono ?_
    rintro e wy ⟨e1, f1, e2, f2, e3, f3, e4, f4, rfl, hrm, hb⟩
    have HVE := hide hrm
    have HVY := hide (HVX.out.below (bel_next hS0 hb))
    clear hrm
    refine hK.out _ _ ?hs202 (fun hS1 => ?_)
    case hs202 => exact bel_next hS0 hb
    clear hK K hb
    try simp only [ly]
    refine wpAnyH_ready (rs := [8]) (by kernel_rfl) (by simp) ?_
    refine AllReadyH.cons rfl (fun K hK => ?_) AllReadyH.nil
    go_simp
    refine (Same13_ref _ _ _ _ _ _ _ _ _ _ _ _ _ _ _ _ _ _ _ _ _ _ _ _ CW CW _ HVY.out HVE.out).mono ?_
    rintro e wy ⟨rfl, hb⟩
    rw [sameW_yes rfl]
    refine hK.out _ _ ?hs203 (fun hS2 => ?_)
    case hs203 => exact bel_next hS1 hb
    clear hK K hb
    try simp only [ly]
    refine tkJ 9 163 hS2 ?_; simp only [ly]
    refine tkJ 10 164 hS2 ?_; simp only [ly]
    refine wpAnyH_ready (rs := [11]) (by kernel_rfl) (by simp) ?_
    refine AllReadyH.cons rfl (fun K hK => ?_) AllReadyH.nil
    go_simp
    refine (awake13s _).mono ?_
    rintro e wy ⟨rfl, hb⟩
    refine hK.out _ _ ?hs206 (fun hS3 => ?_)
    case hs206 => exact bel_next hS2 hb
    clear hK K hb
    try simp only [ly]
    refine tkJ 12 166 hS3 ?_; simp only [ly]
    refine tkJ 13 6 hS3 ?_; simp only [ly]
    refine wpAnyH_done (by kernel_rfl) ?_ _
    go_wp2
    go_ret
    exact ⟨rfl, bel_next HB.out hS3⟩
   ·refine wp_region_held_drew (S := fun W => Below uwv.heap.size uwv W) (by kernel_rfl) ((Below.refl _ uwv).drew) (fun hS0 => ?_)
    refine tkJ 0 114 hS0 ?_; simp only [ly]
    refine tkJ 1 115 hS0 ?_; simp only [ly]
    refine tkJ 2 116 hS0 ?_; simp only [ly]
    refine tkJ 3 117 hS0 ?_; simp only [ly]
    refine tkJ 4 118 hS0 ?_; simp only [ly]
    refine tkJ 5 119 hS0 ?_; simp only [ly]
    refine tkJ 6 120 hS0 ?_; simp only [ly]
    refine tkL 7 121 hS0 ?h ?_; case h => (intro W hW; have e0 := bcell hW x0; have e1 := bcell hW x1; have e2 := bcell hW x2; have e3 := bcell hW x3; have e4 := bcell hW bp0; have e5 := bcell hW bp1; have e6 := bcell hW bp2; have e7 := bcell hW bp3; have e8 := bcell hW bv0; have e9 := bcell hW bv1; have e10 := bcell hW bv2; have e11 := bcell hW bv3; clear hW; go_simp; try rfl); simp only [ly]
    refine tkL 8 122 hS0 ?h ?_; case h => (intro W hW; have e0 := bcell hW x0; have e1 := bcell hW x1; have e2 := bcell hW x2; have e3 := bcell hW x3; have e4 := bcell hW bp0; have e5 := bcell hW bp1; have e6 := bcell hW bp2; have e7 := bcell hW bp3; have e8 := bcell hW bv0; have e9 := bcell hW bv1; have e10 := bcell hW bv2; have e11 := bcell hW bv3; clear hW; go_simp; try rfl); simp only [ly]
    refine wpAnyH_ready (rs := [9]) (by kernel_rfl) (by simp) ?_
    refine AllReadyH.cons rfl (fun K hK => ?_) AllReadyH.nil
    go_simp
    refine (Same13_ref _ _ _ _ _ _ _ _ _ _ _ _ _ _ _ _ _ _ _ _ _ _ _ _ PW PW _ (HVP.out.below hS0) (HVV.out.below hS0)).mono ?_
    rintro e wy ⟨rfl, hb⟩
    rw [sameW_yes rfl]
    refine hK.out _ _ ?hs218 (fun hS1 => ?_)
    case hs218 => exact bel_next hS0 hb
    clear hK K hb
    try simp only [ly]
    refine tkJ 10 124 hS1 ?_; simp only [ly]
    refine tkJ 11 125 hS1 ?_; simp only [ly]
    refine tkJ 12 126 hS1 ?_; simp only [ly]
    refine tkJ 13 127 hS1 ?_; simp only [ly]
    refine tkL 14 128 hS1 ?h ?_; case h => (intro W hW; have e0 := bcell hW x0; have e1 := bcell hW x1; have e2 := bcell hW x2; have e3 := bcell hW x3; have e4 := bcell hW bp0; have e5 := bcell hW bp1; have e6 := bcell hW bp2; have e7 := bcell hW bp3; have e8 := bcell hW bv0; have e9 := bcell hW bv1; have e10 := bcell hW bv2; have e11 := bcell hW bv3; clear hW; go_simp; try rfl); simp only [ly]
    refine wpAnyH_ready (rs := [15]) (by kernel_rfl) (by simp) ?_
    refine AllReadyH.cons rfl (fun K hK => ?_) AllReadyH.nil
    go_simp
    refine (HBF.out _ _ _ _ _ _ _ _ _ (HVV.out.below hS1)).mono ?_
    rintro e wy ⟨yp2, yc2, rfl, hbs, hb⟩
    have HY2 := hide hbs
    have HY1 := hide (HBY.out.below (bel_next hS1 hb))
    clear hbs
    refine hK.out _ _ ?hs224 (fun hS2 => ?_)
    case hs224 => exact bel_next hS1 hb
    clear hK K hb
    try simp only [ly]
    refine wpAnyH_ready (rs := [16]) (by kernel_rfl) (by simp) ?_
    refine AllReadyH.cons rfl (fun K hK => ?_) AllReadyH.nil
    go_simp
    refine (bytes_as _ _ _ _ _ _ BW BW _ true (decide_eq_true rfl) HY1.out HY2.out).mono ?_
    rintro e wy ⟨rfl, hb⟩
    refine hK.out _ _ ?hs225 (fun hS3 => ?_)
    case hs225 => exact bel_next hS2 hb
    clear hK K hb
    try simp only [ly]
    refine tkJ 17 131 hS3 ?_; simp only [ly]
    refine tkJ 18 132 hS3 ?_; simp only [ly]
    refine tkJ 19 133 hS3 ?_; simp only [ly]
    refine tkL 20 134 hS3 ?h ?_; case h => (intro W hW; have e0 := bcell hW x0; have e1 := bcell hW x1; have e2 := bcell hW x2; have e3 := bcell hW x3; have e4 := bcell hW bp0; have e5 := bcell hW bp1; have e6 := bcell hW bp2; have e7 := bcell hW bp3; have e8 := bcell hW bv0; have e9 := bcell hW bv1; have e10 := bcell hW bv2; have e11 := bcell hW bv3; clear hW; go_simp; try rfl); simp only [ly]
    refine tkL 21 135 hS3 ?h ?_; case h => (intro W hW; have e0 := bcell hW x0; have e1 := bcell hW x1; have e2 := bcell hW x2; have e3 := bcell hW x3; have e4 := bcell hW bp0; have e5 := bcell hW bp1; have e6 := bcell hW bp2; have e7 := bcell hW bp3; have e8 := bcell hW bv0; have e9 := bcell hW bv1; have e10 := bcell hW bv2; have e11 := bcell hW bv3; clear hW; go_simp; try rfl); simp only [ly]
    refine tkL 23 137 hS3 ?h ?_; case h => (intro W hW; have e0 := bcell hW x0; have e1 := bcell hW x1; have e2 := bcell hW x2; have e3 := bcell hW x3; have e4 := bcell hW bp0; have e5 := bcell hW bp1; have e6 := bcell hW bp2; have e7 := bcell hW bp3; have e8 := bcell hW bv0; have e9 := bcell hW bv1; have e10 := bcell hW bv2; have e11 := bcell hW bv3; clear hW; go_simp; try rfl); simp only [ly]
    refine tkL 24 138 hS3 ?h ?_; case h => (intro W hW; have e0 := bcell hW x0; have e1 := bcell hW x1; have e2 := bcell hW x2; have e3 := bcell hW x3; have e4 := bcell hW bp0; have e5 := bcell hW bp1; have e6 := bcell hW bp2; have e7 := bcell hW bp3; have e8 := bcell hW bv0; have e9 := bcell hW bv1; have e10 := bcell hW bv2; have e11 := bcell hW bv3; clear hW; go_simp; try rfl); simp only [ly]
    refine wpAnyH_ready (rs := [22]) (by kernel_rfl) (by simp) ?_
    refine AllReadyH.cons rfl (fun K hK => ?_) AllReadyH.nil
    go_simp
    refine (Same13_any _ _ _ _ _ _ _ _ _ _ _ _ _ _ _ _ _ _ _ _ _ _ _ _ PW r _ (HVP.out.below hS3) (HR.out.below (bel_next HB.out hS3))).mono ?_
    rintro e wy ⟨rfl, hb⟩
    rw [HZP.out]
    refine hK.out _ _ ?hs233 (fun hS4 => ?_)
    case hs233 => exact bel_next hS3 hb
    clear hK K hb
    try simp only [ly]
    refine wpAnyH_ready (rs := [25]) (by kernel_rfl) (by simp) ?_
    refine AllReadyH.cons rfl (fun K hK => ?_) AllReadyH.nil
    go_simp
    refine (Same13_ref _ _ _ _ _ _ _ _ _ _ _ _ _ _ _ _ _ _ _ _ _ _ _ _ PW r _ (HVV.out.below hS4) (HR.out.below (bel_next HB.out hS4))).mono ?_
    rintro e wy ⟨rfl, hb⟩
    rw [HZP.out]
    refine hK.out _ _ ?hs234 (fun hS5 => ?_)
    case hs234 => exact bel_next hS4 hb
    clear hK K hb
    try simp only [ly]
    refine tkJ 26 140 hS5 ?_; simp only [ly]
    refine tkJ 27 141 hS5 ?_; simp only [ly]
    refine wpAnyH_done (by kernel_rfl) ?_ _
    have hb := hS5
    replace HB := hide (bel_next HB.out hb)
    (try replace HBK := hide (HBK.out.below hb))
    (try replace HBR := hide (HBR.out.below hb))
    (try replace HBN := hide (HBN.out.below hb))
    (try replace HBP := hide (HBP.out.below hb))
    (try replace HBX := hide (HBX.out.below hb))
    (try replace HBV := hide (HBV.out.below hb))
    (try replace HVN := hide (HVN.out.below hb))
    (try replace HVP := hide (HVP.out.below hb))
    (try replace HVX := hide (HVX.out.below hb))
    (try replace HVV := hide (HVV.out.below hb))
    (try replace HBY := hide (HBY.out.below hb))
    clear hb hS5 a0 a1 a2 x0 x1 x2 x3 bp0 bp1 bp2 bp3 bv0 bv1 bv2 bv3
    generalize hww : wy = u16 at *
    clear hww
    have a0 := HBK.out.cell 0 _ rfl
    have a1 := HBK.out.cell 1 _ rfl
    have a2 := HBK.out.cell 2 _ rfl
    have x0 := HBR.out.cell 0 _ rfl
    have x1 := HBR.out.cell 1 _ rfl
    have x2 := HBR.out.cell 2 _ rfl
    have x3 := HBR.out.cell 3 _ rfl
    have bx0 := HBX.out.cell 0 _ rfl
    have bx1 := HBX.out.cell 1 _ rfl
    have bx2 := HBX.out.cell 2 _ rfl
    have bx3 := HBX.out.cell 3 _ rfl
    go_upto_region 16 with (go_at_call 30; refine (may_ref _ _ _ c _ (HC.out.below HB.out)).mono ?_; rintro e wm ⟨rfl, hwm⟩; rw [HMC.out]; have hwn := hwm.symm; subst hwn; clear hwm)
    refine wp_region_held_drew (S := fun W => Below u16.heap.size u16 W) (by kernel_rfl) ((Below.refl _ u16).drew) (fun hS0 => ?_)
    refine tkJ 0 154 hS0 ?_; simp only [ly]
    refine tkJ 1 155 hS0 ?_; simp only [ly]
    refine tkJ 2 156 hS0 ?_; simp only [ly]
    refine tkL 3 157 hS0 ?h ?_; case h => (intro W hW; have e0 := bcell hW a0; have e1 := bcell hW a1; have e2 := bcell hW a2; have e3 := bcell hW x0; have e4 := bcell hW x1; have e5 := bcell hW x2; have e6 := bcell hW x3; have e7 := bcell hW bx0; have e8 := bcell hW bx1; have e9 := bcell hW bx2; have e10 := bcell hW bx3; clear hW; go_simp; try rfl); simp only [ly]
    refine tkL 4 158 hS0 ?h ?_; case h => (intro W hW; have e0 := bcell hW a0; have e1 := bcell hW a1; have e2 := bcell hW a2; have e3 := bcell hW x0; have e4 := bcell hW x1; have e5 := bcell hW x2; have e6 := bcell hW x3; have e7 := bcell hW bx0; have e8 := bcell hW bx1; have e9 := bcell hW bx2; have e10 := bcell hW bx3; clear hW; go_simp; try rfl); simp only [ly]
    refine tkL 5 159 hS0 ?h ?_; case h => (intro W hW; have e0 := bcell hW a0; have e1 := bcell hW a1; have e2 := bcell hW a2; have e3 := bcell hW x0; have e4 := bcell hW x1; have e5 := bcell hW x2; have e6 := bcell hW x3; have e7 := bcell hW bx0; have e8 := bcell hW bx1; have e9 := bcell hW bx2; have e10 := bcell hW bx3; clear hW; go_simp; try rfl); simp only [ly]
    refine tkJ 6 160 hS0 ?_; simp only [ly]
    refine wpAnyH_ready (rs := [7]) (by kernel_rfl) (by simp) ?_
    refine AllReadyH.cons rfl (fun K hK => ?_) AllReadyH.nil
    go_simp
    refine (HCR.out _ (HK.out.below (bel_next HB.out hS0)) (HR.out.below (bel_next HB.out hS0)) (HC.out.below (bel_next HB.out hS0))).mono ?_
    rintro e wy ⟨e1, f1, e2, f2, e3, f3, e4, f4, rfl, hrm, hb⟩
    have HVE := hide hrm
    have HVY := hide (HVX.out.below (bel_next hS0 hb))
    clear hrm
    refine hK.out _ _ ?hs244 (fun hS1 => ?_)
    case hs244 => exact bel_next hS0 hb
    clear hK K hb
    try simp only [ly]
    refine wpAnyH_ready (rs := [8]) (by kernel_rfl) (by simp) ?_
    refine AllReadyH.cons rfl (fun K hK => ?_) AllReadyH.nil
    go_simp
    refine (Same13_ref _ _ _ _ _ _ _ _ _ _ _ _ _ _ _ _ _ _ _ _ _ _ _ _ CW CW _ HVY.out HVE.out).mono ?_
    rintro e wy ⟨rfl, hb⟩
    rw [sameW_yes rfl]
    refine hK.out _ _ ?hs245 (fun hS2 => ?_)
    case hs245 => exact bel_next hS1 hb
    clear hK K hb
    try simp only [ly]
    refine tkJ 9 163 hS2 ?_; simp only [ly]
    refine tkJ 10 164 hS2 ?_; simp only [ly]
    refine wpAnyH_ready (rs := [11]) (by kernel_rfl) (by simp) ?_
    refine AllReadyH.cons rfl (fun K hK => ?_) AllReadyH.nil
    go_simp
    refine (awake13s _).mono ?_
    rintro e wy ⟨rfl, hb⟩
    refine hK.out _ _ ?hs248 (fun hS3 => ?_)
    case hs248 => exact bel_next hS2 hb
    clear hK K hb
    try simp only [ly]
    refine tkJ 12 166 hS3 ?_; simp only [ly]
    refine tkJ 13 6 hS3 ?_; simp only [ly]
    refine wpAnyH_done (by kernel_rfl) ?_ _
    go_wp2
    go_ret
    exact ⟨rfl, bel_next HB.out hS3⟩

/-! ### The row's step -/
set_option maxRecDepth 100000 in
theorem lifted (os : Os) (started : os.Started) (H : Type) (enc : TypeId × Value → H) :
  ReturnsInHanded {} Tryz.checked os 4 .any (Rows.rawTellsSpec.pre6 enc Tryz.prog Tryz.f4 Rows.rawTellsRow.domain false) (Rows.rawTellsSpec.post enc Tryz.prog Tryz.f4 false true false false) := by
 refine returnsInHanded_of_change_sized (C := Tryz.checked) own started (by kernel_rfl) Tryz.func4
  (ChangeSpec.witness6 (enc := enc) (C := Tryz.checked) false ⟨#[], #[.agg #[.slice none 0 0, .slice none 0 0, .int .i64 0], .agg #[.slice none 0 0, .slice none 0 0, .slice none 0 0, .slice none 0 0], .slice none 0 0], []⟩ 8 (by kernel_rfl) (by kernel_rfl) (by kernel_rfl) (by kernel_rfl)) ?_
 intro W base args ds gs before hval0 hW hcnd hz0 _
 have hval : ∀ (j : Nat) t v, Tryz.f4.params[j]? = some t → args[j]? = some v → Value.okWide Tryz.prog W .any base t v := hval0
 have hz : (DataW.weightsEach Tryz.prog (Tryz.f4.params.toList ++ Rows.rawTellsSpec.plain.varTypes Tryz.prog) (ds ++ gs)).all (· ≤ reachBytes) = true := hz0
 have hW' := hW
 obtain ⟨p, q, hA0, hV, rfl, hfz, hnd⟩ := hW
 have hA : DataW.TrodAll enc Tryz.prog W 0 (fun _ => true) true Tryz.f4.params.toList args.toList ds p := hA0
 rw [Tryz.params4] at hA hval hz
 obtain ⟨v0, vs0, d0, ds0, p0, q0, hargs, rfl, rfl, h0, r0⟩ := trodAll_cons hA
 obtain ⟨v1, vs1, d1, ds1, p1, q1, rfl, rfl, rfl, h1, r1⟩ := trodAll_cons r0
 obtain ⟨v2, vs2, d2, ds2, p2, q2, rfl, rfl, rfl, h2, r2⟩ := trodAll_cons r1
 obtain ⟨rfl, rfl, rfl⟩ := trodAll_nil r2
 obtain rfl : args = #[v0, v1, v2] := by cases args; simp_all
 obtain ⟨rfl, rfl⟩ := trodVars_none hV
 have k0 := h0
 have lt0 : ∀ x ∈ p0, x.block < W.heap.size := by obtain ⟨m, hm⟩ := k0; exact DataW.trod_lt m _ _ _ hm
 have w0 : InKd W v0 := in_kinds (hval 0 25 v0 rfl rfl) h0 (fun n hn => by have := List.all_eq_true.1 hz n (DataW.weights_mem_each (j := 0) (t := 25) rfl rfl n hn); simpa using this)
 have k1 := h1
 have lt1 : ∀ x ∈ p1, x.block < W.heap.size := by obtain ⟨m, hm⟩ := k1; exact DataW.trod_lt m _ _ _ hm
 have w1 : InRw W v1 := in_raw (hval 1 31 v1 rfl rfl) h1 (fun n hn => by have := List.all_eq_true.1 hz n (DataW.weights_mem_each (j := 1) (t := 31) rfl rfl n hn); simpa using this)
 have k2 := h2
 have lt2 : ∀ x ∈ p2, x.block < W.heap.size := by obtain ⟨m, hm⟩ := k2; exact DataW.trod_lt m _ _ _ hm
 have w2 : InN W v2 := in_nums (hval 2 35 v2 rfl rfl) h2 (fun n hn => by have := List.all_eq_true.1 hz n (DataW.weights_mem_each (j := 2) (t := 35) rfl rfl n hn); simpa using this)
 clear hA0 hval0 hz0
 refine (walk v0 v1 v2 W w0 w1 w2).mono fun e W' ⟨he, bel⟩ => ?_
 subst he
 exact ⟨_, rfl, _, _, _, [], _, [], hW', trodAll_mk1 (shut_bool Tryz.underlying4 _), (trodAll_cons_mk (Below.trod laidOut (by kernel_rfl) (of_decide_eq_true (by kernel_rfl)) k0 bel lt0) (trodAll_cons_mk (Below.trod laidOut (by kernel_rfl) (of_decide_eq_true (by kernel_rfl)) k1 bel lt1) (trodAll_cons_mk (Below.trod laidOut (by kernel_rfl) (of_decide_eq_true (by kernel_rfl)) k2 bel lt2) trodAll_mk0))), rfl, bel.frame _, fun h => by cases h⟩

theorem over : Rows.rawTellsRow.holds Tryz.pinned (OpenSpec.ofChange Rows.rawTellsSpec) :=
 OpenClaim.holds_of_wide 4 Tryz.f4 rfl rfl rfl rfl rfl rfl rfl ⟨rfl, rfl, rfl, rfl, rfl⟩ rfl rfl rfl rfl rfl (by kernel_rfl) Tryz.func4 (by kernel_rfl)
  (of_decide_eq_true (by kernel_rfl)) (by unfold Func.isWrapper; first | (rw [if_pos (by decide +kernel)]; kernel_rfl) | (rw [if_neg (by decide +kernel)]; exact ⟨rfl, rfl⟩))
  (fun os started H enc _ => lifted os started H enc)
end Go.Proofs.YtkbbegbpkndebaaGreat.rawTells
namespace Go.Proofs.YtkbbegbpkndebaaGreat
theorem rawTells_holds : Rows.RawTellsSaid := rawTells.over
end Go.Proofs.YtkbbegbpkndebaaGreat

