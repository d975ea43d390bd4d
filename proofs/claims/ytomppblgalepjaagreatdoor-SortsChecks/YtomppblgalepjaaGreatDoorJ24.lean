/- Texts of this claim, joined: OEb. -/
import Derived.Test.YtomppblgalepjaaGreatDoorJ23
/- Whether a clause fits its form, again (the program's, layer 16). -/
namespace Go.Proofs.YtomppblgalepjaaGreatDoor
open Go.RowKit Go.Lib
set_option linter.unusedVariables false
set_option maxHeartbeats 4000000 in
theorem fits16_D (D k : Nat) (h : Int × Int × Int) (x : Sn16) (kd A B N : Int) (st : Bool) (w : World) (hS : SN w D h k x) (hk : kd = 7) : Calls Tryz.prog 65 #[.pointer (some ⟨D + 3, 0, none⟩), .agg #[.int .i64 kd, .bool st, .int .i64 A, .int .i64 B, .int .i64 N], .agg #[.int .i64 2, .int .i64 0, .int .i64 0, .int .i64 1000, .bool false, .bool true]] w fun e w' => e = .returned (.bool (clB h.1 h.2.1 (kd, st, A, B, N))) ∧ Below w.heap.size w w' := by
 have HK := hide hk
 have HSN := hide hS
 have HAS := hide (fun s c W (hW : Below w.heap.size w W) hs => has16 D k h x s c W (HSN.out.below hW) hs)
 clear hS hk
 cases st
 ·rcases ha : inR A h.2.1 with _ | _
  ·have HA : Hid (hasB h 2 A = false) := ha
   have HR : Hid (clB h.1 h.2.1 (kd, false, A, B, N) = false) := by unfold Hid; rw [clB_D HK.out]; rw [ha]; simp
   go_enter Tryz.func65, Tryz.ntmps65
   go_upto_region 1 with fail
   have HBL := hide (bel2 w (.cells #[.int .i64 kd, .bool false, .int .i64 A, .int .i64 B, .int .i64 N] 43) (.cells #[.int .i64 2, .int .i64 0, .int .i64 0, .int .i64 1000, .bool false, .bool true] 99))
   have HXC : Hid (BX ((w.alloc (.cells #[.int .i64 kd, .bool false, .int .i64 A, .int .i64 B, .int .i64 N] 43)).alloc (.cells #[.int .i64 2, .int .i64 0, .int .i64 0, .int .i64 1000, .bool false, .bool true] 99)) w.heap.size #[.int .i64 kd, .bool false, .int .i64 A, .int .i64 B, .int .i64 N] 43) := (BX.new w _ rfl _ _).alloc _
   have HXF : Hid (BX ((w.alloc (.cells #[.int .i64 kd, .bool false, .int .i64 A, .int .i64 B, .int .i64 N] 43)).alloc (.cells #[.int .i64 2, .int .i64 0, .int .i64 0, .int .i64 1000, .bool false, .bool true] 99)) (w.heap.size + 1) #[.int .i64 2, .int .i64 0, .int .i64 0, .int .i64 1000, .bool false, .bool true] 99) := BX.new (w.alloc (.cells #[.int .i64 kd, .bool false, .int .i64 A, .int .i64 B, .int .i64 N] 43)) _ (by simp) _ _
   generalize (w.alloc (.cells #[.int .i64 kd, .bool false, .int .i64 A, .int .i64 B, .int .i64 N] 43)).alloc (.cells #[.int .i64 2, .int .i64 0, .int .i64 0, .int .i64 1000, .bool false, .bool true] 99) = u at *
   have c0 := HXC.out.cell 0 _ rfl
   have c1 := HXC.out.cell 1 _ rfl
   have c2 := HXC.out.cell 2 _ rfl
   have c3 := HXC.out.cell 3 _ rfl
   have c4 := HXC.out.cell 4 _ rfl
   have d0 := HXF.out.cell 0 _ rfl
   have d1 := HXF.out.cell 1 _ rfl
   have d2 := HXF.out.cell 2 _ rfl
   have d3 := HXF.out.cell 3 _ rfl
   have d4 := HXF.out.cell 4 _ rfl
   have d5 := HXF.out.cell 5 _ rfl
   clear HXC HXF
   go_wp2_with (go_at_call 77; refine (HAS.out _ _ _ HBL.out (by decide)).mono ?_; rintro e w1 ⟨rfl, hb⟩; (first | rw [HA.out] | rw [HBO.out]); replace HBL := hide (bel_next HBL.out hb); replace c0 := bcell hb c0; replace c1 := bcell hb c1; replace c2 := bcell hb c2; replace c3 := bcell hb c3; replace c4 := bcell hb c4; replace d0 := bcell hb d0; replace d1 := bcell hb d1; replace d2 := bcell hb d2; replace d3 := bcell hb d3; replace d4 := bcell hb d4; replace d5 := bcell hb d5; clear hb)
   go_ret
   exact ⟨by rw [HR.out]; rfl, HBL.out⟩
  ·rcases hb : decide (B = 0) with _ | _
   ·have HA : Hid (hasB h 2 A = true) := ha
    have HBO : Hid (hasB h 0 B = false) := hb
    have HR : Hid (clB h.1 h.2.1 (kd, false, A, B, N) = false) := by unfold Hid; rw [clB_D HK.out]; rw [ha, hb]; simp
    go_enter Tryz.func65, Tryz.ntmps65
    go_upto_region 1 with fail
    have HBL := hide (bel2 w (.cells #[.int .i64 kd, .bool false, .int .i64 A, .int .i64 B, .int .i64 N] 43) (.cells #[.int .i64 2, .int .i64 0, .int .i64 0, .int .i64 1000, .bool false, .bool true] 99))
    have HXC : Hid (BX ((w.alloc (.cells #[.int .i64 kd, .bool false, .int .i64 A, .int .i64 B, .int .i64 N] 43)).alloc (.cells #[.int .i64 2, .int .i64 0, .int .i64 0, .int .i64 1000, .bool false, .bool true] 99)) w.heap.size #[.int .i64 kd, .bool false, .int .i64 A, .int .i64 B, .int .i64 N] 43) := (BX.new w _ rfl _ _).alloc _
    have HXF : Hid (BX ((w.alloc (.cells #[.int .i64 kd, .bool false, .int .i64 A, .int .i64 B, .int .i64 N] 43)).alloc (.cells #[.int .i64 2, .int .i64 0, .int .i64 0, .int .i64 1000, .bool false, .bool true] 99)) (w.heap.size + 1) #[.int .i64 2, .int .i64 0, .int .i64 0, .int .i64 1000, .bool false, .bool true] 99) := BX.new (w.alloc (.cells #[.int .i64 kd, .bool false, .int .i64 A, .int .i64 B, .int .i64 N] 43)) _ (by simp) _ _
    generalize (w.alloc (.cells #[.int .i64 kd, .bool false, .int .i64 A, .int .i64 B, .int .i64 N] 43)).alloc (.cells #[.int .i64 2, .int .i64 0, .int .i64 0, .int .i64 1000, .bool false, .bool true] 99) = u at *
    have c0 := HXC.out.cell 0 _ rfl
    have c1 := HXC.out.cell 1 _ rfl
    have c2 := HXC.out.cell 2 _ rfl
    have c3 := HXC.out.cell 3 _ rfl
    have c4 := HXC.out.cell 4 _ rfl
    have d0 := HXF.out.cell 0 _ rfl
    have d1 := HXF.out.cell 1 _ rfl
    have d2 := HXF.out.cell 2 _ rfl
    have d3 := HXF.out.cell 3 _ rfl
    have d4 := HXF.out.cell 4 _ rfl
    have d5 := HXF.out.cell 5 _ rfl
    clear HXC HXF
    go_wp2_with (go_at_call 77; refine (HAS.out _ _ _ HBL.out (by decide)).mono ?_; rintro e w1 ⟨rfl, hb⟩; (first | rw [HA.out] | rw [HBO.out]); replace HBL := hide (bel_next HBL.out hb); replace c0 := bcell hb c0; replace c1 := bcell hb c1; replace c2 := bcell hb c2; replace c3 := bcell hb c3; replace c4 := bcell hb c4; replace d0 := bcell hb d0; replace d1 := bcell hb d1; replace d2 := bcell hb d2; replace d3 := bcell hb d3; replace d4 := bcell hb d4; replace d5 := bcell hb d5; clear hb)
    go_ret
    exact ⟨by rw [HR.out]; rfl, HBL.out⟩
   ·by_cases n1 : 0 ≤ N
    ·by_cases n2 : N ≤ 1000
     ·have HA : Hid (hasB h 2 A = true) := ha
      have HBO : Hid (hasB h 0 B = true) := hb
      have HR : Hid (clB h.1 h.2.1 (kd, false, A, B, N) = true) := by unfold Hid; rw [clB_D HK.out]; rw [ha, hb, decide_eq_true n1, decide_eq_true n2]; rfl
      go_enter Tryz.func65, Tryz.ntmps65
      go_upto_region 1 with fail
      have HBL := hide (bel2 w (.cells #[.int .i64 kd, .bool false, .int .i64 A, .int .i64 B, .int .i64 N] 43) (.cells #[.int .i64 2, .int .i64 0, .int .i64 0, .int .i64 1000, .bool false, .bool true] 99))
      have HXC : Hid (BX ((w.alloc (.cells #[.int .i64 kd, .bool false, .int .i64 A, .int .i64 B, .int .i64 N] 43)).alloc (.cells #[.int .i64 2, .int .i64 0, .int .i64 0, .int .i64 1000, .bool false, .bool true] 99)) w.heap.size #[.int .i64 kd, .bool false, .int .i64 A, .int .i64 B, .int .i64 N] 43) := (BX.new w _ rfl _ _).alloc _
      have HXF : Hid (BX ((w.alloc (.cells #[.int .i64 kd, .bool false, .int .i64 A, .int .i64 B, .int .i64 N] 43)).alloc (.cells #[.int .i64 2, .int .i64 0, .int .i64 0, .int .i64 1000, .bool false, .bool true] 99)) (w.heap.size + 1) #[.int .i64 2, .int .i64 0, .int .i64 0, .int .i64 1000, .bool false, .bool true] 99) := BX.new (w.alloc (.cells #[.int .i64 kd, .bool false, .int .i64 A, .int .i64 B, .int .i64 N] 43)) _ (by simp) _ _
      generalize (w.alloc (.cells #[.int .i64 kd, .bool false, .int .i64 A, .int .i64 B, .int .i64 N] 43)).alloc (.cells #[.int .i64 2, .int .i64 0, .int .i64 0, .int .i64 1000, .bool false, .bool true] 99) = u at *
      have c0 := HXC.out.cell 0 _ rfl
      have c1 := HXC.out.cell 1 _ rfl
      have c2 := HXC.out.cell 2 _ rfl
      have c3 := HXC.out.cell 3 _ rfl
      have c4 := HXC.out.cell 4 _ rfl
      have d0 := HXF.out.cell 0 _ rfl
      have d1 := HXF.out.cell 1 _ rfl
      have d2 := HXF.out.cell 2 _ rfl
      have d3 := HXF.out.cell 3 _ rfl
      have d4 := HXF.out.cell 4 _ rfl
      have d5 := HXF.out.cell 5 _ rfl
      clear HXC HXF
      go_wp2_with (go_at_call 77; refine (HAS.out _ _ _ HBL.out (by decide)).mono ?_; rintro e w1 ⟨rfl, hb⟩; (first | rw [HA.out] | rw [HBO.out]); replace HBL := hide (bel_next HBL.out hb); replace c0 := bcell hb c0; replace c1 := bcell hb c1; replace c2 := bcell hb c2; replace c3 := bcell hb c3; replace c4 := bcell hb c4; replace d0 := bcell hb d0; replace d1 := bcell hb d1; replace d2 := bcell hb d2; replace d3 := bcell hb d3; replace d4 := bcell hb d4; replace d5 := bcell hb d5; clear hb)
      go_ret
      exact ⟨by rw [HR.out]; rfl, HBL.out⟩
     ·have HN2 := hide n2
      have HA : Hid (hasB h 2 A = true) := ha
      have HBO : Hid (hasB h 0 B = true) := hb
      have HR : Hid (clB h.1 h.2.1 (kd, false, A, B, N) = false) := by unfold Hid; rw [clB_D HK.out]; rw [decide_eq_false n2]; simp
      go_enter Tryz.func65, Tryz.ntmps65
      go_upto_region 1 with fail
      have HBL := hide (bel2 w (.cells #[.int .i64 kd, .bool false, .int .i64 A, .int .i64 B, .int .i64 N] 43) (.cells #[.int .i64 2, .int .i64 0, .int .i64 0, .int .i64 1000, .bool false, .bool true] 99))
      have HXC : Hid (BX ((w.alloc (.cells #[.int .i64 kd, .bool false, .int .i64 A, .int .i64 B, .int .i64 N] 43)).alloc (.cells #[.int .i64 2, .int .i64 0, .int .i64 0, .int .i64 1000, .bool false, .bool true] 99)) w.heap.size #[.int .i64 kd, .bool false, .int .i64 A, .int .i64 B, .int .i64 N] 43) := (BX.new w _ rfl _ _).alloc _
      have HXF : Hid (BX ((w.alloc (.cells #[.int .i64 kd, .bool false, .int .i64 A, .int .i64 B, .int .i64 N] 43)).alloc (.cells #[.int .i64 2, .int .i64 0, .int .i64 0, .int .i64 1000, .bool false, .bool true] 99)) (w.heap.size + 1) #[.int .i64 2, .int .i64 0, .int .i64 0, .int .i64 1000, .bool false, .bool true] 99) := BX.new (w.alloc (.cells #[.int .i64 kd, .bool false, .int .i64 A, .int .i64 B, .int .i64 N] 43)) _ (by simp) _ _
      generalize (w.alloc (.cells #[.int .i64 kd, .bool false, .int .i64 A, .int .i64 B, .int .i64 N] 43)).alloc (.cells #[.int .i64 2, .int .i64 0, .int .i64 0, .int .i64 1000, .bool false, .bool true] 99) = u at *
      have c0 := HXC.out.cell 0 _ rfl
      have c1 := HXC.out.cell 1 _ rfl
      have c2 := HXC.out.cell 2 _ rfl
      have c3 := HXC.out.cell 3 _ rfl
      have c4 := HXC.out.cell 4 _ rfl
      have d0 := HXF.out.cell 0 _ rfl
      have d1 := HXF.out.cell 1 _ rfl
      have d2 := HXF.out.cell 2 _ rfl
      have d3 := HXF.out.cell 3 _ rfl
      have d4 := HXF.out.cell 4 _ rfl
      have d5 := HXF.out.cell 5 _ rfl
      clear HXC HXF
      go_wp2_with (go_at_call 77; refine (HAS.out _ _ _ HBL.out (by decide)).mono ?_; rintro e w1 ⟨rfl, hb⟩; (first | rw [HA.out] | rw [HBO.out]); replace HBL := hide (bel_next HBL.out hb); replace c0 := bcell hb c0; replace c1 := bcell hb c1; replace c2 := bcell hb c2; replace c3 := bcell hb c3; replace c4 := bcell hb c4; replace d0 := bcell hb d0; replace d1 := bcell hb d1; replace d2 := bcell hb d2; replace d3 := bcell hb d3; replace d4 := bcell hb d4; replace d5 := bcell hb d5; clear hb)
      go_ret
      exact ⟨by rw [HR.out, ← decide_eq_false (Int.not_le.2 HN2.out)]; rfl, HBL.out⟩
    ·have HA : Hid (hasB h 2 A = true) := ha
     have HBO : Hid (hasB h 0 B = true) := hb
     have HR : Hid (clB h.1 h.2.1 (kd, false, A, B, N) = false) := by unfold Hid; rw [clB_D HK.out]; rw [decide_eq_false n1]; simp
     go_enter Tryz.func65, Tryz.ntmps65
     go_upto_region 1 with fail
     have HBL := hide (bel2 w (.cells #[.int .i64 kd, .bool false, .int .i64 A, .int .i64 B, .int .i64 N] 43) (.cells #[.int .i64 2, .int .i64 0, .int .i64 0, .int .i64 1000, .bool false, .bool true] 99))
     have HXC : Hid (BX ((w.alloc (.cells #[.int .i64 kd, .bool false, .int .i64 A, .int .i64 B, .int .i64 N] 43)).alloc (.cells #[.int .i64 2, .int .i64 0, .int .i64 0, .int .i64 1000, .bool false, .bool true] 99)) w.heap.size #[.int .i64 kd, .bool false, .int .i64 A, .int .i64 B, .int .i64 N] 43) := (BX.new w _ rfl _ _).alloc _
     have HXF : Hid (BX ((w.alloc (.cells #[.int .i64 kd, .bool false, .int .i64 A, .int .i64 B, .int .i64 N] 43)).alloc (.cells #[.int .i64 2, .int .i64 0, .int .i64 0, .int .i64 1000, .bool false, .bool true] 99)) (w.heap.size + 1) #[.int .i64 2, .int .i64 0, .int .i64 0, .int .i64 1000, .bool false, .bool true] 99) := BX.new (w.alloc (.cells #[.int .i64 kd, .bool false, .int .i64 A, .int .i64 B, .int .i64 N] 43)) _ (by simp) _ _
     generalize (w.alloc (.cells #[.int .i64 kd, .bool false, .int .i64 A, .int .i64 B, .int .i64 N] 43)).alloc (.cells #[.int .i64 2, .int .i64 0, .int .i64 0, .int .i64 1000, .bool false, .bool true] 99) = u at *
     have c0 := HXC.out.cell 0 _ rfl
     have c1 := HXC.out.cell 1 _ rfl
     have c2 := HXC.out.cell 2 _ rfl
     have c3 := HXC.out.cell 3 _ rfl
     have c4 := HXC.out.cell 4 _ rfl
     have d0 := HXF.out.cell 0 _ rfl
     have d1 := HXF.out.cell 1 _ rfl
     have d2 := HXF.out.cell 2 _ rfl
     have d3 := HXF.out.cell 3 _ rfl
     have d4 := HXF.out.cell 4 _ rfl
     have d5 := HXF.out.cell 5 _ rfl
     clear HXC HXF
     go_wp2_with (go_at_call 77; refine (HAS.out _ _ _ HBL.out (by decide)).mono ?_; rintro e w1 ⟨rfl, hb⟩; (first | rw [HA.out] | rw [HBO.out]); replace HBL := hide (bel_next HBL.out hb); replace c0 := bcell hb c0; replace c1 := bcell hb c1; replace c2 := bcell hb c2; replace c3 := bcell hb c3; replace c4 := bcell hb c4; replace d0 := bcell hb d0; replace d1 := bcell hb d1; replace d2 := bcell hb d2; replace d3 := bcell hb d3; replace d4 := bcell hb d4; replace d5 := bcell hb d5; clear hb)
     go_ret
     exact ⟨by rw [HR.out]; rfl, HBL.out⟩
 ·have HR : Hid (clB h.1 h.2.1 (kd, true, A, B, N) = false) := by unfold Hid; rw [clB_D HK.out]; simp
  go_enter Tryz.func65, Tryz.ntmps65
  go_upto_region 1 with fail
  have HBL := hide (bel2 w (.cells #[.int .i64 kd, .bool true, .int .i64 A, .int .i64 B, .int .i64 N] 43) (.cells #[.int .i64 2, .int .i64 0, .int .i64 0, .int .i64 1000, .bool false, .bool true] 99))
  have HXC : Hid (BX ((w.alloc (.cells #[.int .i64 kd, .bool true, .int .i64 A, .int .i64 B, .int .i64 N] 43)).alloc (.cells #[.int .i64 2, .int .i64 0, .int .i64 0, .int .i64 1000, .bool false, .bool true] 99)) w.heap.size #[.int .i64 kd, .bool true, .int .i64 A, .int .i64 B, .int .i64 N] 43) := (BX.new w _ rfl _ _).alloc _
  have HXF : Hid (BX ((w.alloc (.cells #[.int .i64 kd, .bool true, .int .i64 A, .int .i64 B, .int .i64 N] 43)).alloc (.cells #[.int .i64 2, .int .i64 0, .int .i64 0, .int .i64 1000, .bool false, .bool true] 99)) (w.heap.size + 1) #[.int .i64 2, .int .i64 0, .int .i64 0, .int .i64 1000, .bool false, .bool true] 99) := BX.new (w.alloc (.cells #[.int .i64 kd, .bool true, .int .i64 A, .int .i64 B, .int .i64 N] 43)) _ (by simp) _ _
  generalize (w.alloc (.cells #[.int .i64 kd, .bool true, .int .i64 A, .int .i64 B, .int .i64 N] 43)).alloc (.cells #[.int .i64 2, .int .i64 0, .int .i64 0, .int .i64 1000, .bool false, .bool true] 99) = u at *
  have c0 := HXC.out.cell 0 _ rfl
  have c1 := HXC.out.cell 1 _ rfl
  have c2 := HXC.out.cell 2 _ rfl
  have c3 := HXC.out.cell 3 _ rfl
  have c4 := HXC.out.cell 4 _ rfl
  have d0 := HXF.out.cell 0 _ rfl
  have d1 := HXF.out.cell 1 _ rfl
  have d2 := HXF.out.cell 2 _ rfl
  have d3 := HXF.out.cell 3 _ rfl
  have d4 := HXF.out.cell 4 _ rfl
  have d5 := HXF.out.cell 5 _ rfl
  clear HXC HXF
  go_wp2
  go_ret
  exact ⟨by rw [HR.out]; rfl, HBL.out⟩
set_option maxHeartbeats 4000000 in
theorem fits16_E (D k : Nat) (h : Int × Int × Int) (x : Sn16) (kd A B N : Int) (st : Bool) (w : World) (hS : SN w D h k x) (hk : kd = 8) : Calls Tryz.prog 65 #[.pointer (some ⟨D + 3, 0, none⟩), .agg #[.int .i64 kd, .bool st, .int .i64 A, .int .i64 B, .int .i64 N], .agg #[.int .i64 2, .int .i64 0, .int .i64 (-1000), .int .i64 0, .bool true, .bool false]] w fun e w' => e = .returned (.bool (clB h.1 h.2.1 (kd, st, A, B, N))) ∧ Below w.heap.size w w' := by
 have HK := hide hk
 have HSN := hide hS
 have HAS := hide (fun s c W (hW : Below w.heap.size w W) hs => has16 D k h x s c W (HSN.out.below hW) hs)
 clear hS hk
 cases st
 ·have HR : Hid (clB h.1 h.2.1 (kd, false, A, B, N) = false) := by unfold Hid; rw [clB_E HK.out]; simp
  go_enter Tryz.func65, Tryz.ntmps65
  go_upto_region 1 with fail
  have HBL := hide (bel2 w (.cells #[.int .i64 kd, .bool false, .int .i64 A, .int .i64 B, .int .i64 N] 43) (.cells #[.int .i64 2, .int .i64 0, .int .i64 (-1000), .int .i64 0, .bool true, .bool false] 99))
  have HXC : Hid (BX ((w.alloc (.cells #[.int .i64 kd, .bool false, .int .i64 A, .int .i64 B, .int .i64 N] 43)).alloc (.cells #[.int .i64 2, .int .i64 0, .int .i64 (-1000), .int .i64 0, .bool true, .bool false] 99)) w.heap.size #[.int .i64 kd, .bool false, .int .i64 A, .int .i64 B, .int .i64 N] 43) := (BX.new w _ rfl _ _).alloc _
  have HXF : Hid (BX ((w.alloc (.cells #[.int .i64 kd, .bool false, .int .i64 A, .int .i64 B, .int .i64 N] 43)).alloc (.cells #[.int .i64 2, .int .i64 0, .int .i64 (-1000), .int .i64 0, .bool true, .bool false] 99)) (w.heap.size + 1) #[.int .i64 2, .int .i64 0, .int .i64 (-1000), .int .i64 0, .bool true, .bool false] 99) := BX.new (w.alloc (.cells #[.int .i64 kd, .bool false, .int .i64 A, .int .i64 B, .int .i64 N] 43)) _ (by simp) _ _
  generalize (w.alloc (.cells #[.int .i64 kd, .bool false, .int .i64 A, .int .i64 B, .int .i64 N] 43)).alloc (.cells #[.int .i64 2, .int .i64 0, .int .i64 (-1000), .int .i64 0, .bool true, .bool false] 99) = u at *
  have c0 := HXC.out.cell 0 _ rfl
  have c1 := HXC.out.cell 1 _ rfl
  have c2 := HXC.out.cell 2 _ rfl
  have c3 := HXC.out.cell 3 _ rfl
  have c4 := HXC.out.cell 4 _ rfl
  have d0 := HXF.out.cell 0 _ rfl
  have d1 := HXF.out.cell 1 _ rfl
  have d2 := HXF.out.cell 2 _ rfl
  have d3 := HXF.out.cell 3 _ rfl
  have d4 := HXF.out.cell 4 _ rfl
  have d5 := HXF.out.cell 5 _ rfl
  clear HXC HXF
  go_wp2
  go_ret
  exact ⟨by rw [HR.out]; rfl, HBL.out⟩
 ·rcases ha : inR A h.2.1 with _ | _
  ·have HA : Hid (hasB h 2 A = false) := ha
   have HR : Hid (clB h.1 h.2.1 (kd, true, A, B, N) = false) := by unfold Hid; rw [clB_E HK.out]; rw [ha]; simp
   go_enter Tryz.func65, Tryz.ntmps65
   go_upto_region 1 with fail
   have HBL := hide (bel2 w (.cells #[.int .i64 kd, .bool true, .int .i64 A, .int .i64 B, .int .i64 N] 43) (.cells #[.int .i64 2, .int .i64 0, .int .i64 (-1000), .int .i64 0, .bool true, .bool false] 99))
   have HXC : Hid (BX ((w.alloc (.cells #[.int .i64 kd, .bool true, .int .i64 A, .int .i64 B, .int .i64 N] 43)).alloc (.cells #[.int .i64 2, .int .i64 0, .int .i64 (-1000), .int .i64 0, .bool true, .bool false] 99)) w.heap.size #[.int .i64 kd, .bool true, .int .i64 A, .int .i64 B, .int .i64 N] 43) := (BX.new w _ rfl _ _).alloc _
   have HXF : Hid (BX ((w.alloc (.cells #[.int .i64 kd, .bool true, .int .i64 A, .int .i64 B, .int .i64 N] 43)).alloc (.cells #[.int .i64 2, .int .i64 0, .int .i64 (-1000), .int .i64 0, .bool true, .bool false] 99)) (w.heap.size + 1) #[.int .i64 2, .int .i64 0, .int .i64 (-1000), .int .i64 0, .bool true, .bool false] 99) := BX.new (w.alloc (.cells #[.int .i64 kd, .bool true, .int .i64 A, .int .i64 B, .int .i64 N] 43)) _ (by simp) _ _
   generalize (w.alloc (.cells #[.int .i64 kd, .bool true, .int .i64 A, .int .i64 B, .int .i64 N] 43)).alloc (.cells #[.int .i64 2, .int .i64 0, .int .i64 (-1000), .int .i64 0, .bool true, .bool false] 99) = u at *
   have c0 := HXC.out.cell 0 _ rfl
   have c1 := HXC.out.cell 1 _ rfl
   have c2 := HXC.out.cell 2 _ rfl
   have c3 := HXC.out.cell 3 _ rfl
   have c4 := HXC.out.cell 4 _ rfl
   have d0 := HXF.out.cell 0 _ rfl
   have d1 := HXF.out.cell 1 _ rfl
   have d2 := HXF.out.cell 2 _ rfl
   have d3 := HXF.out.cell 3 _ rfl
   have d4 := HXF.out.cell 4 _ rfl
   have d5 := HXF.out.cell 5 _ rfl
   clear HXC HXF
   go_wp2_with (go_at_call 77; refine (HAS.out _ _ _ HBL.out (by decide)).mono ?_; rintro e w1 ⟨rfl, hb⟩; (first | rw [HA.out] | rw [HBO.out]); replace HBL := hide (bel_next HBL.out hb); replace c0 := bcell hb c0; replace c1 := bcell hb c1; replace c2 := bcell hb c2; replace c3 := bcell hb c3; replace c4 := bcell hb c4; replace d0 := bcell hb d0; replace d1 := bcell hb d1; replace d2 := bcell hb d2; replace d3 := bcell hb d3; replace d4 := bcell hb d4; replace d5 := bcell hb d5; clear hb)
   go_ret
   exact ⟨by rw [HR.out]; rfl, HBL.out⟩
  ·rcases hb : decide (B = 0) with _ | _
   ·have HA : Hid (hasB h 2 A = true) := ha
    have HBO : Hid (hasB h 0 B = false) := hb
    have HR : Hid (clB h.1 h.2.1 (kd, true, A, B, N) = false) := by unfold Hid; rw [clB_E HK.out]; rw [ha, hb]; simp
    go_enter Tryz.func65, Tryz.ntmps65
    go_upto_region 1 with fail
    have HBL := hide (bel2 w (.cells #[.int .i64 kd, .bool true, .int .i64 A, .int .i64 B, .int .i64 N] 43) (.cells #[.int .i64 2, .int .i64 0, .int .i64 (-1000), .int .i64 0, .bool true, .bool false] 99))
    have HXC : Hid (BX ((w.alloc (.cells #[.int .i64 kd, .bool true, .int .i64 A, .int .i64 B, .int .i64 N] 43)).alloc (.cells #[.int .i64 2, .int .i64 0, .int .i64 (-1000), .int .i64 0, .bool true, .bool false] 99)) w.heap.size #[.int .i64 kd, .bool true, .int .i64 A, .int .i64 B, .int .i64 N] 43) := (BX.new w _ rfl _ _).alloc _
    have HXF : Hid (BX ((w.alloc (.cells #[.int .i64 kd, .bool true, .int .i64 A, .int .i64 B, .int .i64 N] 43)).alloc (.cells #[.int .i64 2, .int .i64 0, .int .i64 (-1000), .int .i64 0, .bool true, .bool false] 99)) (w.heap.size + 1) #[.int .i64 2, .int .i64 0, .int .i64 (-1000), .int .i64 0, .bool true, .bool false] 99) := BX.new (w.alloc (.cells #[.int .i64 kd, .bool true, .int .i64 A, .int .i64 B, .int .i64 N] 43)) _ (by simp) _ _
    generalize (w.alloc (.cells #[.int .i64 kd, .bool true, .int .i64 A, .int .i64 B, .int .i64 N] 43)).alloc (.cells #[.int .i64 2, .int .i64 0, .int .i64 (-1000), .int .i64 0, .bool true, .bool false] 99) = u at *
    have c0 := HXC.out.cell 0 _ rfl
    have c1 := HXC.out.cell 1 _ rfl
    have c2 := HXC.out.cell 2 _ rfl
    have c3 := HXC.out.cell 3 _ rfl
    have c4 := HXC.out.cell 4 _ rfl
    have d0 := HXF.out.cell 0 _ rfl
    have d1 := HXF.out.cell 1 _ rfl
    have d2 := HXF.out.cell 2 _ rfl
    have d3 := HXF.out.cell 3 _ rfl
    have d4 := HXF.out.cell 4 _ rfl
    have d5 := HXF.out.cell 5 _ rfl
    clear HXC HXF
    go_wp2_with (go_at_call 77; refine (HAS.out _ _ _ HBL.out (by decide)).mono ?_; rintro e w1 ⟨rfl, hb⟩; (first | rw [HA.out] | rw [HBO.out]); replace HBL := hide (bel_next HBL.out hb); replace c0 := bcell hb c0; replace c1 := bcell hb c1; replace c2 := bcell hb c2; replace c3 := bcell hb c3; replace c4 := bcell hb c4; replace d0 := bcell hb d0; replace d1 := bcell hb d1; replace d2 := bcell hb d2; replace d3 := bcell hb d3; replace d4 := bcell hb d4; replace d5 := bcell hb d5; clear hb)
    go_ret
    exact ⟨by rw [HR.out]; rfl, HBL.out⟩
   ·by_cases n1 : (-1000) ≤ N
    ·by_cases n2 : N ≤ 0
     ·have HA : Hid (hasB h 2 A = true) := ha
      have HBO : Hid (hasB h 0 B = true) := hb
      have HR : Hid (clB h.1 h.2.1 (kd, true, A, B, N) = true) := by unfold Hid; rw [clB_E HK.out]; rw [ha, hb, decide_eq_true n1, decide_eq_true n2]; rfl
      go_enter Tryz.func65, Tryz.ntmps65
      go_upto_region 1 with fail
      have HBL := hide (bel2 w (.cells #[.int .i64 kd, .bool true, .int .i64 A, .int .i64 B, .int .i64 N] 43) (.cells #[.int .i64 2, .int .i64 0, .int .i64 (-1000), .int .i64 0, .bool true, .bool false] 99))
      have HXC : Hid (BX ((w.alloc (.cells #[.int .i64 kd, .bool true, .int .i64 A, .int .i64 B, .int .i64 N] 43)).alloc (.cells #[.int .i64 2, .int .i64 0, .int .i64 (-1000), .int .i64 0, .bool true, .bool false] 99)) w.heap.size #[.int .i64 kd, .bool true, .int .i64 A, .int .i64 B, .int .i64 N] 43) := (BX.new w _ rfl _ _).alloc _
      have HXF : Hid (BX ((w.alloc (.cells #[.int .i64 kd, .bool true, .int .i64 A, .int .i64 B, .int .i64 N] 43)).alloc (.cells #[.int .i64 2, .int .i64 0, .int .i64 (-1000), .int .i64 0, .bool true, .bool false] 99)) (w.heap.size + 1) #[.int .i64 2, .int .i64 0, .int .i64 (-1000), .int .i64 0, .bool true, .bool false] 99) := BX.new (w.alloc (.cells #[.int .i64 kd, .bool true, .int .i64 A, .int .i64 B, .int .i64 N] 43)) _ (by simp) _ _
      generalize (w.alloc (.cells #[.int .i64 kd, .bool true, .int .i64 A, .int .i64 B, .int .i64 N] 43)).alloc (.cells #[.int .i64 2, .int .i64 0, .int .i64 (-1000), .int .i64 0, .bool true, .bool false] 99) = u at *
      have c0 := HXC.out.cell 0 _ rfl
      have c1 := HXC.out.cell 1 _ rfl
      have c2 := HXC.out.cell 2 _ rfl
      have c3 := HXC.out.cell 3 _ rfl
      have c4 := HXC.out.cell 4 _ rfl
      have d0 := HXF.out.cell 0 _ rfl
      have d1 := HXF.out.cell 1 _ rfl
      have d2 := HXF.out.cell 2 _ rfl
      have d3 := HXF.out.cell 3 _ rfl
      have d4 := HXF.out.cell 4 _ rfl
      have d5 := HXF.out.cell 5 _ rfl
      clear HXC HXF
      go_wp2_with (go_at_call 77; refine (HAS.out _ _ _ HBL.out (by decide)).mono ?_; rintro e w1 ⟨rfl, hb⟩; (first | rw [HA.out] | rw [HBO.out]); replace HBL := hide (bel_next HBL.out hb); replace c0 := bcell hb c0; replace c1 := bcell hb c1; replace c2 := bcell hb c2; replace c3 := bcell hb c3; replace c4 := bcell hb c4; replace d0 := bcell hb d0; replace d1 := bcell hb d1; replace d2 := bcell hb d2; replace d3 := bcell hb d3; replace d4 := bcell hb d4; replace d5 := bcell hb d5; clear hb)
      go_ret
      exact ⟨by rw [HR.out]; rfl, HBL.out⟩
     ·have HN2 := hide n2
      have HA : Hid (hasB h 2 A = true) := ha
      have HBO : Hid (hasB h 0 B = true) := hb
      have HR : Hid (clB h.1 h.2.1 (kd, true, A, B, N) = false) := by unfold Hid; rw [clB_E HK.out]; rw [decide_eq_false n2]; simp
      go_enter Tryz.func65, Tryz.ntmps65
      go_upto_region 1 with fail
      have HBL := hide (bel2 w (.cells #[.int .i64 kd, .bool true, .int .i64 A, .int .i64 B, .int .i64 N] 43) (.cells #[.int .i64 2, .int .i64 0, .int .i64 (-1000), .int .i64 0, .bool true, .bool false] 99))
      have HXC : Hid (BX ((w.alloc (.cells #[.int .i64 kd, .bool true, .int .i64 A, .int .i64 B, .int .i64 N] 43)).alloc (.cells #[.int .i64 2, .int .i64 0, .int .i64 (-1000), .int .i64 0, .bool true, .bool false] 99)) w.heap.size #[.int .i64 kd, .bool true, .int .i64 A, .int .i64 B, .int .i64 N] 43) := (BX.new w _ rfl _ _).alloc _
      have HXF : Hid (BX ((w.alloc (.cells #[.int .i64 kd, .bool true, .int .i64 A, .int .i64 B, .int .i64 N] 43)).alloc (.cells #[.int .i64 2, .int .i64 0, .int .i64 (-1000), .int .i64 0, .bool true, .bool false] 99)) (w.heap.size + 1) #[.int .i64 2, .int .i64 0, .int .i64 (-1000), .int .i64 0, .bool true, .bool false] 99) := BX.new (w.alloc (.cells #[.int .i64 kd, .bool true, .int .i64 A, .int .i64 B, .int .i64 N] 43)) _ (by simp) _ _
      generalize (w.alloc (.cells #[.int .i64 kd, .bool true, .int .i64 A, .int .i64 B, .int .i64 N] 43)).alloc (.cells #[.int .i64 2, .int .i64 0, .int .i64 (-1000), .int .i64 0, .bool true, .bool false] 99) = u at *
      have c0 := HXC.out.cell 0 _ rfl
      have c1 := HXC.out.cell 1 _ rfl
      have c2 := HXC.out.cell 2 _ rfl
      have c3 := HXC.out.cell 3 _ rfl
      have c4 := HXC.out.cell 4 _ rfl
      have d0 := HXF.out.cell 0 _ rfl
      have d1 := HXF.out.cell 1 _ rfl
      have d2 := HXF.out.cell 2 _ rfl
      have d3 := HXF.out.cell 3 _ rfl
      have d4 := HXF.out.cell 4 _ rfl
      have d5 := HXF.out.cell 5 _ rfl
      clear HXC HXF
      go_wp2_with (go_at_call 77; refine (HAS.out _ _ _ HBL.out (by decide)).mono ?_; rintro e w1 ⟨rfl, hb⟩; (first | rw [HA.out] | rw [HBO.out]); replace HBL := hide (bel_next HBL.out hb); replace c0 := bcell hb c0; replace c1 := bcell hb c1; replace c2 := bcell hb c2; replace c3 := bcell hb c3; replace c4 := bcell hb c4; replace d0 := bcell hb d0; replace d1 := bcell hb d1; replace d2 := bcell hb d2; replace d3 := bcell hb d3; replace d4 := bcell hb d4; replace d5 := bcell hb d5; clear hb)
      go_ret
      exact ⟨by rw [HR.out, ← decide_eq_false (Int.not_le.2 HN2.out)]; rfl, HBL.out⟩
    ·have HA : Hid (hasB h 2 A = true) := ha
     have HBO : Hid (hasB h 0 B = true) := hb
     have HR : Hid (clB h.1 h.2.1 (kd, true, A, B, N) = false) := by unfold Hid; rw [clB_E HK.out]; rw [decide_eq_false n1]; simp
     go_enter Tryz.func65, Tryz.ntmps65
     go_upto_region 1 with fail
     have HBL := hide (bel2 w (.cells #[.int .i64 kd, .bool true, .int .i64 A, .int .i64 B, .int .i64 N] 43) (.cells #[.int .i64 2, .int .i64 0, .int .i64 (-1000), .int .i64 0, .bool true, .bool false] 99))
     have HXC : Hid (BX ((w.alloc (.cells #[.int .i64 kd, .bool true, .int .i64 A, .int .i64 B, .int .i64 N] 43)).alloc (.cells #[.int .i64 2, .int .i64 0, .int .i64 (-1000), .int .i64 0, .bool true, .bool false] 99)) w.heap.size #[.int .i64 kd, .bool true, .int .i64 A, .int .i64 B, .int .i64 N] 43) := (BX.new w _ rfl _ _).alloc _
     have HXF : Hid (BX ((w.alloc (.cells #[.int .i64 kd, .bool true, .int .i64 A, .int .i64 B, .int .i64 N] 43)).alloc (.cells #[.int .i64 2, .int .i64 0, .int .i64 (-1000), .int .i64 0, .bool true, .bool false] 99)) (w.heap.size + 1) #[.int .i64 2, .int .i64 0, .int .i64 (-1000), .int .i64 0, .bool true, .bool false] 99) := BX.new (w.alloc (.cells #[.int .i64 kd, .bool true, .int .i64 A, .int .i64 B, .int .i64 N] 43)) _ (by simp) _ _
     generalize (w.alloc (.cells #[.int .i64 kd, .bool true, .int .i64 A, .int .i64 B, .int .i64 N] 43)).alloc (.cells #[.int .i64 2, .int .i64 0, .int .i64 (-1000), .int .i64 0, .bool true, .bool false] 99) = u at *
     have c0 := HXC.out.cell 0 _ rfl
     have c1 := HXC.out.cell 1 _ rfl
     have c2 := HXC.out.cell 2 _ rfl
     have c3 := HXC.out.cell 3 _ rfl
     have c4 := HXC.out.cell 4 _ rfl
     have d0 := HXF.out.cell 0 _ rfl
     have d1 := HXF.out.cell 1 _ rfl
     have d2 := HXF.out.cell 2 _ rfl
     have d3 := HXF.out.cell 3 _ rfl
     have d4 := HXF.out.cell 4 _ rfl
     have d5 := HXF.out.cell 5 _ rfl
     clear HXC HXF
     go_wp2_with (go_at_call 77; refine (HAS.out _ _ _ HBL.out (by decide)).mono ?_; rintro e w1 ⟨rfl, hb⟩; (first | rw [HA.out] | rw [HBO.out]); replace HBL := hide (bel_next HBL.out hb); replace c0 := bcell hb c0; replace c1 := bcell hb c1; replace c2 := bcell hb c2; replace c3 := bcell hb c3; replace c4 := bcell hb c4; replace d0 := bcell hb d0; replace d1 := bcell hb d1; replace d2 := bcell hb d2; replace d3 := bcell hb d3; replace d4 := bcell hb d4; replace d5 := bcell hb d5; clear hb)
     go_ret
     exact ⟨by rw [HR.out]; rfl, HBL.out⟩
set_option maxHeartbeats 4000000 in
theorem fits16_Z (D k : Nat) (h : Int × Int × Int) (x : Sn16) (kd A B N : Int) (st : Bool) (w : World) (hS : SN w D h k x) (hk : kd ≠ 4 ∧ kd ≠ 5 ∧ kd ≠ 9 ∧ kd ≠ 6 ∧ kd ≠ 7 ∧ kd ≠ 8) : Calls Tryz.prog 65 #[.pointer (some ⟨D + 3, 0, none⟩), .agg #[.int .i64 kd, .bool st, .int .i64 A, .int .i64 B, .int .i64 N], .agg #[.int .i64 0, .int .i64 0, .int .i64 0, .int .i64 0, .bool false, .bool false]] w fun e w' => e = .returned (.bool (clB h.1 h.2.1 (kd, st, A, B, N))) ∧ Below w.heap.size w w' := by
 have HK := hide hk
 have HSN := hide hS
 have HAS := hide (fun s c W (hW : Below w.heap.size w W) hs => has16 D k h x s c W (HSN.out.below hW) hs)
 clear hS hk
 cases st
 ·by_cases h0 : A = B
  ·have b0 : (A == B) = true := by simpa using h0
   clear h0
   have HR : Hid (clB h.1 h.2.1 (kd, false, A, B, N) = false) := by unfold Hid; rw [clB_Z HK.out]; skip
   go_enter Tryz.func65, Tryz.ntmps65
   go_upto_region 1 with fail
   have HBL := hide (bel2 w (.cells #[.int .i64 kd, .bool false, .int .i64 A, .int .i64 B, .int .i64 N] 43) (.cells #[.int .i64 0, .int .i64 0, .int .i64 0, .int .i64 0, .bool false, .bool false] 99))
   have HXC : Hid (BX ((w.alloc (.cells #[.int .i64 kd, .bool false, .int .i64 A, .int .i64 B, .int .i64 N] 43)).alloc (.cells #[.int .i64 0, .int .i64 0, .int .i64 0, .int .i64 0, .bool false, .bool false] 99)) w.heap.size #[.int .i64 kd, .bool false, .int .i64 A, .int .i64 B, .int .i64 N] 43) := (BX.new w _ rfl _ _).alloc _
   have HXF : Hid (BX ((w.alloc (.cells #[.int .i64 kd, .bool false, .int .i64 A, .int .i64 B, .int .i64 N] 43)).alloc (.cells #[.int .i64 0, .int .i64 0, .int .i64 0, .int .i64 0, .bool false, .bool false] 99)) (w.heap.size + 1) #[.int .i64 0, .int .i64 0, .int .i64 0, .int .i64 0, .bool false, .bool false] 99) := BX.new (w.alloc (.cells #[.int .i64 kd, .bool false, .int .i64 A, .int .i64 B, .int .i64 N] 43)) _ (by simp) _ _
   generalize (w.alloc (.cells #[.int .i64 kd, .bool false, .int .i64 A, .int .i64 B, .int .i64 N] 43)).alloc (.cells #[.int .i64 0, .int .i64 0, .int .i64 0, .int .i64 0, .bool false, .bool false] 99) = u at *
   have c0 := HXC.out.cell 0 _ rfl
   have c1 := HXC.out.cell 1 _ rfl
   have c2 := HXC.out.cell 2 _ rfl
   have c3 := HXC.out.cell 3 _ rfl
   have c4 := HXC.out.cell 4 _ rfl
   have d0 := HXF.out.cell 0 _ rfl
   have d1 := HXF.out.cell 1 _ rfl
   have d2 := HXF.out.cell 2 _ rfl
   have d3 := HXF.out.cell 3 _ rfl
   have d4 := HXF.out.cell 4 _ rfl
   have d5 := HXF.out.cell 5 _ rfl
   clear HXC HXF
   go_wp2
   go_ret
   exact ⟨by rw [HR.out]; rfl, HBL.out⟩
  ·have b0 : (A == B) = false := by simpa using h0
   clear h0
   have HR : Hid (clB h.1 h.2.1 (kd, false, A, B, N) = false) := by unfold Hid; rw [clB_Z HK.out]; skip
   go_enter Tryz.func65, Tryz.ntmps65
   go_upto_region 1 with fail
   have HBL := hide (bel2 w (.cells #[.int .i64 kd, .bool false, .int .i64 A, .int .i64 B, .int .i64 N] 43) (.cells #[.int .i64 0, .int .i64 0, .int .i64 0, .int .i64 0, .bool false, .bool false] 99))
   have HXC : Hid (BX ((w.alloc (.cells #[.int .i64 kd, .bool false, .int .i64 A, .int .i64 B, .int .i64 N] 43)).alloc (.cells #[.int .i64 0, .int .i64 0, .int .i64 0, .int .i64 0, .bool false, .bool false] 99)) w.heap.size #[.int .i64 kd, .bool false, .int .i64 A, .int .i64 B, .int .i64 N] 43) := (BX.new w _ rfl _ _).alloc _
   have HXF : Hid (BX ((w.alloc (.cells #[.int .i64 kd, .bool false, .int .i64 A, .int .i64 B, .int .i64 N] 43)).alloc (.cells #[.int .i64 0, .int .i64 0, .int .i64 0, .int .i64 0, .bool false, .bool false] 99)) (w.heap.size + 1) #[.int .i64 0, .int .i64 0, .int .i64 0, .int .i64 0, .bool false, .bool false] 99) := BX.new (w.alloc (.cells #[.int .i64 kd, .bool false, .int .i64 A, .int .i64 B, .int .i64 N] 43)) _ (by simp) _ _
   generalize (w.alloc (.cells #[.int .i64 kd, .bool false, .int .i64 A, .int .i64 B, .int .i64 N] 43)).alloc (.cells #[.int .i64 0, .int .i64 0, .int .i64 0, .int .i64 0, .bool false, .bool false] 99) = u at *
   have c0 := HXC.out.cell 0 _ rfl
   have c1 := HXC.out.cell 1 _ rfl
   have c2 := HXC.out.cell 2 _ rfl
   have c3 := HXC.out.cell 3 _ rfl
   have c4 := HXC.out.cell 4 _ rfl
   have d0 := HXF.out.cell 0 _ rfl
   have d1 := HXF.out.cell 1 _ rfl
   have d2 := HXF.out.cell 2 _ rfl
   have d3 := HXF.out.cell 3 _ rfl
   have d4 := HXF.out.cell 4 _ rfl
   have d5 := HXF.out.cell 5 _ rfl
   clear HXC HXF
   go_wp2
   go_ret
   exact ⟨by rw [HR.out]; rfl, HBL.out⟩
 ·by_cases h0 : A = B
  ·have b0 : (A == B) = true := by simpa using h0
   clear h0
   have HR : Hid (clB h.1 h.2.1 (kd, true, A, B, N) = false) := by unfold Hid; rw [clB_Z HK.out]; skip
   go_enter Tryz.func65, Tryz.ntmps65
   go_upto_region 1 with fail
   have HBL := hide (bel2 w (.cells #[.int .i64 kd, .bool true, .int .i64 A, .int .i64 B, .int .i64 N] 43) (.cells #[.int .i64 0, .int .i64 0, .int .i64 0, .int .i64 0, .bool false, .bool false] 99))
   have HXC : Hid (BX ((w.alloc (.cells #[.int .i64 kd, .bool true, .int .i64 A, .int .i64 B, .int .i64 N] 43)).alloc (.cells #[.int .i64 0, .int .i64 0, .int .i64 0, .int .i64 0, .bool false, .bool false] 99)) w.heap.size #[.int .i64 kd, .bool true, .int .i64 A, .int .i64 B, .int .i64 N] 43) := (BX.new w _ rfl _ _).alloc _
   have HXF : Hid (BX ((w.alloc (.cells #[.int .i64 kd, .bool true, .int .i64 A, .int .i64 B, .int .i64 N] 43)).alloc (.cells #[.int .i64 0, .int .i64 0, .int .i64 0, .int .i64 0, .bool false, .bool false] 99)) (w.heap.size + 1) #[.int .i64 0, .int .i64 0, .int .i64 0, .int .i64 0, .bool false, .bool false] 99) := BX.new (w.alloc (.cells #[.int .i64 kd, .bool true, .int .i64 A, .int .i64 B, .int .i64 N] 43)) _ (by simp) _ _
   generalize (w.alloc (.cells #[.int .i64 kd, .bool true, .int .i64 A, .int .i64 B, .int .i64 N] 43)).alloc (.cells #[.int .i64 0, .int .i64 0, .int .i64 0, .int .i64 0, .bool false, .bool false] 99) = u at *
   have c0 := HXC.out.cell 0 _ rfl
   have c1 := HXC.out.cell 1 _ rfl
   have c2 := HXC.out.cell 2 _ rfl
   have c3 := HXC.out.cell 3 _ rfl
   have c4 := HXC.out.cell 4 _ rfl
   have d0 := HXF.out.cell 0 _ rfl
   have d1 := HXF.out.cell 1 _ rfl
   have d2 := HXF.out.cell 2 _ rfl
   have d3 := HXF.out.cell 3 _ rfl
   have d4 := HXF.out.cell 4 _ rfl
   have d5 := HXF.out.cell 5 _ rfl
   clear HXC HXF
   go_wp2
   go_ret
   exact ⟨by rw [HR.out]; rfl, HBL.out⟩
  ·have b0 : (A == B) = false := by simpa using h0
   clear h0
   have HR : Hid (clB h.1 h.2.1 (kd, true, A, B, N) = false) := by unfold Hid; rw [clB_Z HK.out]; skip
   go_enter Tryz.func65, Tryz.ntmps65
   go_upto_region 1 with fail
   have HBL := hide (bel2 w (.cells #[.int .i64 kd, .bool true, .int .i64 A, .int .i64 B, .int .i64 N] 43) (.cells #[.int .i64 0, .int .i64 0, .int .i64 0, .int .i64 0, .bool false, .bool false] 99))
   have HXC : Hid (BX ((w.alloc (.cells #[.int .i64 kd, .bool true, .int .i64 A, .int .i64 B, .int .i64 N] 43)).alloc (.cells #[.int .i64 0, .int .i64 0, .int .i64 0, .int .i64 0, .bool false, .bool false] 99)) w.heap.size #[.int .i64 kd, .bool true, .int .i64 A, .int .i64 B, .int .i64 N] 43) := (BX.new w _ rfl _ _).alloc _
   have HXF : Hid (BX ((w.alloc (.cells #[.int .i64 kd, .bool true, .int .i64 A, .int .i64 B, .int .i64 N] 43)).alloc (.cells #[.int .i64 0, .int .i64 0, .int .i64 0, .int .i64 0, .bool false, .bool false] 99)) (w.heap.size + 1) #[.int .i64 0, .int .i64 0, .int .i64 0, .int .i64 0, .bool false, .bool false] 99) := BX.new (w.alloc (.cells #[.int .i64 kd, .bool true, .int .i64 A, .int .i64 B, .int .i64 N] 43)) _ (by simp) _ _
   generalize (w.alloc (.cells #[.int .i64 kd, .bool true, .int .i64 A, .int .i64 B, .int .i64 N] 43)).alloc (.cells #[.int .i64 0, .int .i64 0, .int .i64 0, .int .i64 0, .bool false, .bool false] 99) = u at *
   have c0 := HXC.out.cell 0 _ rfl
   have c1 := HXC.out.cell 1 _ rfl
   have c2 := HXC.out.cell 2 _ rfl
   have c3 := HXC.out.cell 3 _ rfl
   have c4 := HXC.out.cell 4 _ rfl
   have d0 := HXF.out.cell 0 _ rfl
   have d1 := HXF.out.cell 1 _ rfl
   have d2 := HXF.out.cell 2 _ rfl
   have d3 := HXF.out.cell 3 _ rfl
   have d4 := HXF.out.cell 4 _ rfl
   have d5 := HXF.out.cell 5 _ rfl
   clear HXC HXF
   go_wp2
   go_ret
   exact ⟨by rw [HR.out]; rfl, HBL.out⟩
end Go.Proofs.YtomppblgalepjaaGreatDoor

