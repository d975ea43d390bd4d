/- Texts of this claim, joined: H6. -/
import Derived.Test.YtkbbegbpkndebaaGreatJ13
import Derived.Test.YtkbbegbpkndebaaGreatJ18
import Derived.Test.YtkbbegbpkndebaaGreatJ19
import Derived.Test.YtkbbegbpkndebaaGreatJ20
import Derived.Test.YtkbbegbpkndebaaGreatJ21
/- The document's Kinds and Same of layer 13. -/
namespace Go.Proofs.YtkbbegbpkndebaaGreat
open Go.RowKit Go.Lib
set_option linter.unusedVariables false
def sameW (r q : Rw) : Bool := decide (r.1 = q.1) && decide (r.2.1 = q.2.1) && decide (r.2.2.1 = q.2.2.1) && decide (r.2.2.2 = q.2.2.2)
theorem sameW_iff {r q : Rw} : sameW r q = true ↔ r = q := by
 unfold sameW
 rw [Bool.and_eq_true, Bool.and_eq_true, Bool.and_eq_true, decide_eq_true_iff, decide_eq_true_iff, decide_eq_true_iff, decide_eq_true_iff]
 exact ⟨fun h => Prod.ext h.1.1.1 (Prod.ext h.1.1.2 (Prod.ext h.1.2 h.2)), fun h => by rw [h]; exact ⟨⟨⟨rfl, rfl⟩, rfl⟩, rfl⟩⟩
theorem sameW_yes {r q : Rw} (h : r = q) : sameW r q = true := sameW_iff.2 h
theorem sameW_no {r q : Rw} : sameW r q = false ↔ ¬ r = q := by rw [← Bool.not_eq_true, sameW_iff]
theorem kinds_no {k : Kd} {i : Nat} {f : Bool × Int} (h : k.2.1[i]? = some f) (hf : floB f = false) : kindsB k = false := by
 unfold kindsB
 rw [Bool.and_eq_false_iff]
 left
 rw [List.all_eq_false]
 exact ⟨f, List.mem_of_getElem? h, by rw [hf]; decide⟩
theorem kinds_yes {k : Kd} (h : k.2.1.all floB = true) : kindsB k = decide (k.1.length ≤ 6 ∧ k.2.1.length ≤ 4 ∧ 0 ≤ k.2.2 ∧ k.2.2 ≤ 3) := by
 unfold kindsB
 rw [h, Bool.true_and]
set_option maxHeartbeats 4000000 in
theorem Kinds13_ref (ps : Option Addr) (ns cs : Nat) (pc : Option Addr) (nc cc : Nat) (k : Kd) (g : Int) (w : World) (hg : k.2.2 = g) (hK : KM w ps ns cs pc nc cc k) : Calls Tryz.prog 12 #[.agg #[.slice ps ns cs, .slice pc nc cc, .int .i64 g]] w fun e w' => e = .returned (.bool (kindsB k)) ∧ Below w.heap.size w w' := by
 have HB0 := hide (bel1 w (.cells #[.slice ps ns cs, .slice pc nc cc, .int .i64 g] 25))
 have HV := hide (hK.below HB0.out)
 have z0 := cell_new w #[.slice ps ns cs, .slice pc nc cc, .int .i64 g] 25 _ rfl 0 _ rfl
 have z1 := cell_new w #[.slice ps ns cs, .slice pc nc cc, .int .i64 g] 25 _ rfl 1 _ rfl
 have z2 := cell_new w #[.slice ps ns cs, .slice pc nc cc, .int .i64 g] 25 _ rfl 2 _ rfl
 have Z0 := hide z0
 have Z1 := hide z1
 have Z2 := hide z2
 have hls := hK.s.1
 have hlc := hK.c.1
 have HLC := hide hlc
 have hmx := hK.c.2.1
 unfold maxLen at hmx
 clear hK
 go_enter Tryz.func12, Tryz.ntmps12
 go_wp2
 generalize w.alloc (.cells #[.slice ps ns cs, .slice pc nc cc, .int .i64 g] 25) = u at *
 go_loopw [3] (fun v wr => ∃ i : Nat, i ≤ nc ∧ v = .int .i64 i ∧ Hid ((k.2.1.take i).all floB = true) ∧ Hid (Below u.heap.size u wr)) (fun v _ => nc - (intOf v).toNat)
 case atStart => exact ⟨0, by omega, rfl, (show _ = _ by simp), Below.refl _ _⟩
 case round =>
  clear z0 z1 z2
  obtain ⟨k0, hk, rfl, HF, HB⟩ := hrel
  have z0 := bcell HB.out Z0.out
  have z1 := bcell HB.out Z1.out
  have z2 := bcell HB.out Z2.out
  by_cases hlt : k0 < nc
  ·obtain ⟨b, off, rfl⟩ := rs_addr HV.out.c (by omega)
   obtain ⟨is, fat, hx, c0, c1⟩ := floor_at ((HV.out.below HB.out).c) k0 hlt
   have hk0 : (0 : Int) ≤ (k0 : Int) := by omega
   have hk1 : (k0 : Int) < (nc : Int) := by omega
   rcases hf : floB (is, fat) with _ | _
   ·have HNO : Hid (kindsB k = false) := kinds_no hx hf
    replace HB := hide (bel_next HB0.out HB.out)
    by_cases f1 : 0 < fat
    ·clear hf hx
     go_wp2
     go_ret
     exact ⟨by rw [HNO.out]; rfl, bel_next HB.out (bel1 _ _)⟩
    ·by_cases f2 : fat < -1000
     ·clear hf hx
      go_wp2
      go_ret
      exact ⟨by rw [HNO.out]; rfl, bel_next HB.out (bel1 _ _)⟩
     ·have f3 : is = false ∧ ¬ fat = 0 := by
       unfold floB at hf
       rw [decide_eq_true (by simp only; omega), Bool.true_and] at hf
       simp at hf
       exact hf
      obtain ⟨rfl, f4⟩ := f3
      have f5 : (fat != 0) = true := by simpa using f4
      clear hf hx
      go_wp2
      go_ret
      exact ⟨by rw [HNO.out]; rfl, bel_next HB.out (bel1 _ _)⟩
   ·have HF2 : Hid ((k.2.1.take (k0 + 1)).all floB = true) := by
     unfold Hid
     rw [takeG_snoc hx, List.all_append, HF.out]
     simp [hf]
    have f0 : (fat ≤ 0 ∧ -1000 ≤ fat) ∧ (is = true ∨ fat = 0) := by
     unfold floB at hf
     simpa using hf
    have f1 : ¬ 0 < fat := by omega
    have f2 : ¬ fat < -1000 := by omega
    rcases is with _ | _
    ·obtain rfl : fat = 0 := by have := f0.2; simpa using this
     clear hf hx f0
     go_wp2
     go_roundw
     case rel => exact ⟨k0 + 1, by omega, by go_num, HF2, (show Hid _ from bel_next HB.out (bel1 _ _))⟩
     case measure => simp [intOf]; omega
    ·clear hf hx f0
     go_wp2
     go_roundw
     case rel => exact ⟨k0 + 1, by omega, by go_num, HF2, (show Hid _ from bel_next HB.out (bel1 _ _))⟩
     case measure => simp [intOf]; omega
  ·obtain rfl : k0 = nc := by omega
   have HA : Hid (k.2.1.all floB = true) := by have := HF.out; rwa [← HLC.out, List.take_length] at this
   clear HF
   have hls2 := hls
   by_cases g1 : (ns : Int) ≤ 6
   ·by_cases g2 : (k0 : Int) ≤ 4
    ·by_cases g3 : 0 ≤ g
     ·by_cases g4 : g ≤ 3
      ·have HR : Hid (kindsB k = true) := by unfold Hid; rw [kinds_yes HA.out, decide_eq_true_iff]; omega
       clear hls hls2 hlc hg
       go_wp2
       go_ret
       exact ⟨by rw [HR.out]; first | rfl | (simp; omega), bel_next HB0.out HB.out⟩
      ·have HR : Hid (kindsB k = false) := by unfold Hid; rw [kinds_yes HA.out, decide_eq_false_iff_not]; omega
       clear hls hls2 hlc hg
       go_wp2
       go_ret
       exact ⟨by rw [HR.out]; first | rfl | (simp; omega), bel_next HB0.out HB.out⟩
     ·have HR : Hid (kindsB k = false) := by unfold Hid; rw [kinds_yes HA.out, decide_eq_false_iff_not]; omega
      clear hls hls2 hlc hg
      go_wp2
      go_ret
      exact ⟨by rw [HR.out]; first | rfl | (simp; omega), bel_next HB0.out HB.out⟩
    ·have HR : Hid (kindsB k = false) := by unfold Hid; rw [kinds_yes HA.out, decide_eq_false_iff_not]; omega
     clear hls hls2 hlc hg
     go_wp2
     go_ret
     exact ⟨by rw [HR.out]; first | rfl | (simp; omega), bel_next HB0.out HB.out⟩
   ·have HR : Hid (kindsB k = false) := by unfold Hid; rw [kinds_yes HA.out, decide_eq_false_iff_not]; omega
    clear hls hls2 hlc hg
    go_wp2
    go_ret
    exact ⟨by rw [HR.out]; first | rfl | (simp; omega), bel_next HB0.out HB.out⟩
set_option maxHeartbeats 16000000 in
theorem Same13_ref (p1 : Option Addr) (n1 c1 : Nat) (p2 : Option Addr) (n2 c2 : Nat) (p3 : Option Addr) (n3 c3 : Nat) (p4 : Option Addr) (n4 c4 : Nat) (q1 : Option Addr) (m1 d1 : Nat) (q2 : Option Addr) (m2 d2 : Nat) (q3 : Option Addr) (m3 d3 : Nat) (q4 : Option Addr) (m4 d4 : Nat) (r q : Rw) (w : World) (hA : RM w p1 n1 c1 p2 n2 c2 p3 n3 c3 p4 n4 c4 r) (hQ : RM w q1 m1 d1 q2 m2 d2 q3 m3 d3 q4 m4 d4 q) : Calls Tryz.prog 20 #[.agg #[.slice p1 n1 c1, .slice p2 n2 c2, .slice p3 n3 c3, .slice p4 n4 c4], .agg #[.slice q1 m1 d1, .slice q2 m2 d2, .slice q3 m3 d3, .slice q4 m4 d4]] w fun e w' => e = .returned (.bool (sameW r q)) ∧ Below w.heap.size w w' := by
 have HA := hide hA
 have HQ := hide hQ
 have HL1 := hide (LS.len hA.s)
 have HM1 := hide (LS.len hQ.s)
 have HL2 := hide (LS.len hA.t)
 have HM2 := hide (LS.len hQ.t)
 have HL3 := hide (LS.len hA.a)
 have HM3 := hide (LS.len hQ.a)
 have HL4 := hide (LS.len hA.g)
 have HM4 := hide (LS.len hQ.g)
 clear hA hQ
 have HB0 := hide (bel2 w (.cells #[.slice p1 n1 c1, .slice p2 n2 c2, .slice p3 n3 c3, .slice p4 n4 c4] 31) (.cells #[.slice q1 m1 d1, .slice q2 m2 d2, .slice q3 m3 d3, .slice q4 m4 d4] 31))
 have a1 := cell_old (w := w.alloc (.cells #[.slice p1 n1 c1, .slice p2 n2 c2, .slice p3 n3 c3, .slice p4 n4 c4] 31)) (.cells #[.slice q1 m1 d1, .slice q2 m2 d2, .slice q3 m3 d3, .slice q4 m4 d4] 31) (cell_new w #[.slice p1 n1 c1, .slice p2 n2 c2, .slice p3 n3 c3, .slice p4 n4 c4] 31 _ rfl 0 _ rfl)
 have b1 := cell_new (w.alloc (.cells #[.slice p1 n1 c1, .slice p2 n2 c2, .slice p3 n3 c3, .slice p4 n4 c4] 31)) #[.slice q1 m1 d1, .slice q2 m2 d2, .slice q3 m3 d3, .slice q4 m4 d4] 31 (w.heap.size + 1) (by simp) 0 _ rfl
 have a2 := cell_old (w := w.alloc (.cells #[.slice p1 n1 c1, .slice p2 n2 c2, .slice p3 n3 c3, .slice p4 n4 c4] 31)) (.cells #[.slice q1 m1 d1, .slice q2 m2 d2, .slice q3 m3 d3, .slice q4 m4 d4] 31) (cell_new w #[.slice p1 n1 c1, .slice p2 n2 c2, .slice p3 n3 c3, .slice p4 n4 c4] 31 _ rfl 1 _ rfl)
 have b2 := cell_new (w.alloc (.cells #[.slice p1 n1 c1, .slice p2 n2 c2, .slice p3 n3 c3, .slice p4 n4 c4] 31)) #[.slice q1 m1 d1, .slice q2 m2 d2, .slice q3 m3 d3, .slice q4 m4 d4] 31 (w.heap.size + 1) (by simp) 1 _ rfl
 have a3 := cell_old (w := w.alloc (.cells #[.slice p1 n1 c1, .slice p2 n2 c2, .slice p3 n3 c3, .slice p4 n4 c4] 31)) (.cells #[.slice q1 m1 d1, .slice q2 m2 d2, .slice q3 m3 d3, .slice q4 m4 d4] 31) (cell_new w #[.slice p1 n1 c1, .slice p2 n2 c2, .slice p3 n3 c3, .slice p4 n4 c4] 31 _ rfl 2 _ rfl)
 have b3 := cell_new (w.alloc (.cells #[.slice p1 n1 c1, .slice p2 n2 c2, .slice p3 n3 c3, .slice p4 n4 c4] 31)) #[.slice q1 m1 d1, .slice q2 m2 d2, .slice q3 m3 d3, .slice q4 m4 d4] 31 (w.heap.size + 1) (by simp) 2 _ rfl
 have a4 := cell_old (w := w.alloc (.cells #[.slice p1 n1 c1, .slice p2 n2 c2, .slice p3 n3 c3, .slice p4 n4 c4] 31)) (.cells #[.slice q1 m1 d1, .slice q2 m2 d2, .slice q3 m3 d3, .slice q4 m4 d4] 31) (cell_new w #[.slice p1 n1 c1, .slice p2 n2 c2, .slice p3 n3 c3, .slice p4 n4 c4] 31 _ rfl 3 _ rfl)
 have b4 := cell_new (w.alloc (.cells #[.slice p1 n1 c1, .slice p2 n2 c2, .slice p3 n3 c3, .slice p4 n4 c4] 31)) #[.slice q1 m1 d1, .slice q2 m2 d2, .slice q3 m3 d3, .slice q4 m4 d4] 31 (w.heap.size + 1) (by simp) 3 _ rfl
 by_cases hn1 : n1 = m1
 ·subst hn1
  by_cases hn2 : n2 = m2
  ·subst hn2
   by_cases hn3 : n3 = m3
   ·subst hn3
    by_cases hn4 : n4 = m4
    ·subst hn4
     go_enter Tryz.func20, Tryz.ntmps20
     go_upto_region 3 with fail
     have Z1 := hide a1
     have Y1 := hide b1
     have Z2 := hide a2
     have Y2 := hide b2
     have Z3 := hide a3
     have Y3 := hide b3
     have Z4 := hide a4
     have Y4 := hide b4
     generalize hww : (w.alloc (.cells #[.slice p1 n1 c1, .slice p2 n2 c2, .slice p3 n3 c3, .slice p4 n4 c4] 31)).alloc (.cells #[.slice q1 n1 d1, .slice q2 n2 d2, .slice q3 n3 d3, .slice q4 n4 d4] 31) = u at *
     clear hww
     obtain ⟨wC, hC⟩ : ∃ x, u = x := ⟨_, rfl⟩
     have HBW : Hid (Below u.heap.size u wC) := by unfold Hid; rw [← hC]; exact Below.refl _ _
     rw [hC] at a1 a2 a3 a4 b1 b2 b3 b4 ⊢
     clear hC
     go_wp2
     go_loopw [5] (fun v wr => ∃ i : Nat, i ≤ n1 ∧ v = .int .i64 i ∧ Hid (r.1.take i = q.1.take i) ∧ Hid (Below wC.heap.size wC wr)) (fun v _ => n1 - (intOf v).toNat)
     case atStart => exact ⟨0, by omega, rfl, (show _ = _ by simp), Below.refl _ _⟩
     case round =>
      clear a1 b1 a2 b2 a3 b3 a4 b4
      obtain ⟨k0, hk, rfl, HF, HB⟩ := hrel
      have a1 := bcell (bel_next HBW.out HB.out) Z1.out
      have b1 := bcell (bel_next HBW.out HB.out) Y1.out
      have a2 := bcell (bel_next HBW.out HB.out) Z2.out
      have b2 := bcell (bel_next HBW.out HB.out) Y2.out
      have a3 := bcell (bel_next HBW.out HB.out) Z3.out
      have b3 := bcell (bel_next HBW.out HB.out) Y3.out
      have a4 := bcell (bel_next HBW.out HB.out) Z4.out
      have b4 := bcell (bel_next HBW.out HB.out) Y4.out
      by_cases hlt : k0 < n1
      ·obtain ⟨ba, oa, rfl⟩ := LS.addr HA.out.s (by omega)
       obtain ⟨bb, ob, rfl⟩ := LS.addr HQ.out.s (by omega)
       obtain ⟨px, nx, cx, lx, hx, x0, hX, _⟩ := LS.at ((HA.out.below (bel_next HB0.out (bel_next HBW.out HB.out))).s) k0 hlt
       obtain ⟨py, ny, cy, ly, hy, y0, hY, _⟩ := LS.at ((HQ.out.below (bel_next HB0.out (bel_next HBW.out HB.out))).s) k0 hlt
       have HX1 := hide hX
       have HX2 := hide hY
       have hk0 : (0 : Int) ≤ (k0 : Int) := by omega
       have hk1 : (k0 : Int) < (n1 : Int) := by omega
       have hmk : n1 ≤ 9223372036854775807 := by have h := LS.max HA.out.s; unfold maxLen at h; omega
       by_cases he : lx = ly
       ·have HD : Hid (decide (lx = ly) = true) := decide_eq_true he
        have HF2 : Hid (r.1.take (k0 + 1) = q.1.take (k0 + 1)) := by unfold Hid; rw [takeG_snoc hx, takeG_snoc hy, HF.out, he]
        clear hx hy hX hY he
        go_upto_region 6 with fail
        refine wp_region_held_drew (S := fun W => Below wr.heap.size wr W) (by kernel_rfl) ((Below.refl _ wr).drew) (fun hS0 => ?_)
        refine tkJ 0 50 hS0 ?_; simp only [lyF]
        refine tkL 1 51 hS0 ?h ?_; case h => (intro W hW; have e0 := bcell hW a1; have e1 := bcell hW b1; have e2 := bcell hW x0; have e3 := bcell hW y0; clear hW; go_simp; try rfl); simp only [lyF]
        refine tkJ 2 52 hS0 ?_; simp only [lyF]
        refine tkJ 3 53 hS0 ?_; simp only [lyF]
        refine tkL 4 54 hS0 ?h ?_; case h => (intro W hW; have e0 := bcell hW a1; have e1 := bcell hW b1; have e2 := bcell hW x0; have e3 := bcell hW y0; clear hW; go_simp; try rfl); simp only [lyF]
        refine tkJ 5 55 hS0 ?_; simp only [lyF]
        refine tkL 6 56 hS0 ?h ?_; case h => (intro W hW; have e0 := bcell hW a1; have e1 := bcell hW b1; have e2 := bcell hW x0; have e3 := bcell hW y0; clear hW; go_simp; try rfl); simp only [lyF]
        refine tkJ 7 57 hS0 ?_; simp only [lyF]
        refine tkJ 8 58 hS0 ?_; simp only [lyF]
        refine tkL 9 59 hS0 ?h ?_; case h => (intro W hW; have e0 := bcell hW a1; have e1 := bcell hW b1; have e2 := bcell hW x0; have e3 := bcell hW y0; clear hW; go_simp; try rfl); simp only [lyF]
        refine wpAnyH_ready (rs := [10]) (by kernel_rfl) (by simp) ?_
        refine AllReadyH.cons rfl (fun K hK => ?_) AllReadyH.nil
        go_simp
        refine (SameS_ref px nx cx lx py ny cy ly _ (HX1.out.below hS0) (HX2.out.below hS0)).mono ?_
        rintro e wn ⟨rfl, hb⟩
        rw [HD.out]
        refine hK.out _ _ ?hs83 (fun hS1 => ?_)
        case hs83 => exact bel_next hS0 hb
        clear hK K hb
        try simp only [lyF]
        refine tkJ 11 61 hS1 ?_; simp only [lyF]
        refine wpAnyH_done (by kernel_rfl) ?_ _
        go_wp2
        go_roundw
        case rel => exact ⟨k0 + 1, by omega, by go_num, HF2, (show Hid _ from bel_next HB.out hS1)⟩
        case measure => simp [intOf]; omega
       ·have HD : Hid (decide (lx = ly) = false) := decide_eq_false he
        have HNO : Hid (sameW r q = false) := by
         unfold Hid
         rw [sameW_no]
         rintro rfl
         rw [hx] at hy
         cases hy
         exact he rfl
        clear hx hy hX hY he
        go_upto_region 6 with fail
        refine wp_region_held_drew (S := fun W => Below wr.heap.size wr W) (by kernel_rfl) ((Below.refl _ wr).drew) (fun hS0 => ?_)
        refine tkJ 0 50 hS0 ?_; simp only [lyF]
        refine tkL 1 51 hS0 ?h ?_; case h => (intro W hW; have e0 := bcell hW a1; have e1 := bcell hW b1; have e2 := bcell hW x0; have e3 := bcell hW y0; clear hW; go_simp; try rfl); simp only [lyF]
        refine tkJ 2 52 hS0 ?_; simp only [lyF]
        refine tkJ 3 53 hS0 ?_; simp only [lyF]
        refine tkL 4 54 hS0 ?h ?_; case h => (intro W hW; have e0 := bcell hW a1; have e1 := bcell hW b1; have e2 := bcell hW x0; have e3 := bcell hW y0; clear hW; go_simp; try rfl); simp only [lyF]
        refine tkJ 5 55 hS0 ?_; simp only [lyF]
        refine tkL 6 56 hS0 ?h ?_; case h => (intro W hW; have e0 := bcell hW a1; have e1 := bcell hW b1; have e2 := bcell hW x0; have e3 := bcell hW y0; clear hW; go_simp; try rfl); simp only [lyF]
        refine tkJ 7 57 hS0 ?_; simp only [lyF]
        refine tkJ 8 58 hS0 ?_; simp only [lyF]
        refine tkL 9 59 hS0 ?h ?_; case h => (intro W hW; have e0 := bcell hW a1; have e1 := bcell hW b1; have e2 := bcell hW x0; have e3 := bcell hW y0; clear hW; go_simp; try rfl); simp only [lyF]
        refine wpAnyH_ready (rs := [10]) (by kernel_rfl) (by simp) ?_
        refine AllReadyH.cons rfl (fun K hK => ?_) AllReadyH.nil
        go_simp
        refine (SameS_ref px nx cx lx py ny cy ly _ (HX1.out.below hS0) (HX2.out.below hS0)).mono ?_
        rintro e wn ⟨rfl, hb⟩
        rw [HD.out]
        refine hK.out _ _ ?hs95 (fun hS1 => ?_)
        case hs95 => exact bel_next hS0 hb
        clear hK K hb
        try simp only [lyF]
        refine tkJ 11 61 hS1 ?_; simp only [lyF]
        refine wpAnyH_done (by kernel_rfl) ?_ _
        go_wp2
        go_ret
        exact ⟨by rw [HNO.out]; rfl, bel_next HB0.out (bel_next HBW.out (bel_next HB.out hS1))⟩
      ·obtain rfl : k0 = n1 := by omega
       have HE1 : Hid (r.1 = q.1) := by
        have h := HF.out
        rwa [List.take_of_length_le (by rw [HL1.out]; exact Nat.le_refl _), List.take_of_length_le (by rw [HM1.out]; exact Nat.le_refl _)] at h
       clear HF
       replace HBW := hide (bel_next HBW.out HB.out)
       clear HB
       generalize hww : wr = wC at *
       clear hww
       go_wp2
       go_loopw [6] (fun v wr => ∃ i : Nat, i ≤ n2 ∧ v = .int .i64 i ∧ Hid (r.2.1.take i = q.2.1.take i) ∧ Hid (Below wC.heap.size wC wr)) (fun v _ => n2 - (intOf v).toNat)
       case atStart => exact ⟨0, by omega, rfl, (show _ = _ by simp), Below.refl _ _⟩
       case round =>
        clear a2 b2 a3 b3 a4 b4
        obtain ⟨k0, hk, rfl, HF, HB⟩ := hrel
        have a2 := bcell (bel_next HBW.out HB.out) Z2.out
        have b2 := bcell (bel_next HBW.out HB.out) Y2.out
        have a3 := bcell (bel_next HBW.out HB.out) Z3.out
        have b3 := bcell (bel_next HBW.out HB.out) Y3.out
        have a4 := bcell (bel_next HBW.out HB.out) Z4.out
        have b4 := bcell (bel_next HBW.out HB.out) Y4.out
        by_cases hlt : k0 < n2
        ·obtain ⟨ba, oa, rfl⟩ := LS.addr HA.out.t (by omega)
         obtain ⟨bb, ob, rfl⟩ := LS.addr HQ.out.t (by omega)
         obtain ⟨px, nx, cx, lx, hx, x0, hX, _⟩ := LS.at ((HA.out.below (bel_next HB0.out (bel_next HBW.out HB.out))).t) k0 hlt
         obtain ⟨py, ny, cy, ly, hy, y0, hY, _⟩ := LS.at ((HQ.out.below (bel_next HB0.out (bel_next HBW.out HB.out))).t) k0 hlt
         have HX1 := hide hX
         have HX2 := hide hY
         have hk0 : (0 : Int) ≤ (k0 : Int) := by omega
         have hk1 : (k0 : Int) < (n2 : Int) := by omega
         have hmk : n2 ≤ 9223372036854775807 := by have h := LS.max HA.out.t; unfold maxLen at h; omega
         by_cases he : lx = ly
         ·have HD : Hid (decide (lx = ly) = true) := decide_eq_true he
          have HF2 : Hid (r.2.1.take (k0 + 1) = q.2.1.take (k0 + 1)) := by unfold Hid; rw [takeG_snoc hx, takeG_snoc hy, HF.out, he]
          clear hx hy hX hY he
          go_upto_region 11 with fail
          refine wp_region_held_drew (S := fun W => Below wr.heap.size wr W) (by kernel_rfl) ((Below.refl _ wr).drew) (fun hS0 => ?_)
          refine tkJ 0 69 hS0 ?_; simp only [lyF]
          refine tkL 1 70 hS0 ?h ?_; case h => (intro W hW; have e0 := bcell hW a2; have e1 := bcell hW b2; have e2 := bcell hW x0; have e3 := bcell hW y0; clear hW; go_simp; try rfl); simp only [lyF]
          refine tkJ 2 71 hS0 ?_; simp only [lyF]
          refine tkJ 3 72 hS0 ?_; simp only [lyF]
          refine tkL 4 73 hS0 ?h ?_; case h => (intro W hW; have e0 := bcell hW a2; have e1 := bcell hW b2; have e2 := bcell hW x0; have e3 := bcell hW y0; clear hW; go_simp; try rfl); simp only [lyF]
          refine tkJ 5 74 hS0 ?_; simp only [lyF]
          refine tkL 6 75 hS0 ?h ?_; case h => (intro W hW; have e0 := bcell hW a2; have e1 := bcell hW b2; have e2 := bcell hW x0; have e3 := bcell hW y0; clear hW; go_simp; try rfl); simp only [lyF]
          refine tkJ 7 76 hS0 ?_; simp only [lyF]
          refine tkJ 8 77 hS0 ?_; simp only [lyF]
          refine tkL 9 78 hS0 ?h ?_; case h => (intro W hW; have e0 := bcell hW a2; have e1 := bcell hW b2; have e2 := bcell hW x0; have e3 := bcell hW y0; clear hW; go_simp; try rfl); simp only [lyF]
          refine wpAnyH_ready (rs := [10]) (by kernel_rfl) (by simp) ?_
          refine AllReadyH.cons rfl (fun K hK => ?_) AllReadyH.nil
          go_simp
          refine (Same10_ref px nx cx lx py ny cy ly _ (HX1.out.below hS0) (HX2.out.below hS0)).mono ?_
          rintro e wn ⟨rfl, hb⟩
          rw [HD.out]
          refine hK.out _ _ ?hs59 (fun hS1 => ?_)
          case hs59 => exact bel_next hS0 hb
          clear hK K hb
          try simp only [lyF]
          refine tkJ 11 80 hS1 ?_; simp only [lyF]
          refine wpAnyH_done (by kernel_rfl) ?_ _
          go_wp2
          go_roundw
          case rel => exact ⟨k0 + 1, by omega, by go_num, HF2, (show Hid _ from bel_next HB.out hS1)⟩
          case measure => simp [intOf]; omega
         ·have HD : Hid (decide (lx = ly) = false) := decide_eq_false he
          have HNO : Hid (sameW r q = false) := by
           unfold Hid
           rw [sameW_no]
           rintro rfl
           rw [hx] at hy
           cases hy
           exact he rfl
          clear hx hy hX hY he
          go_upto_region 11 with fail
          refine wp_region_held_drew (S := fun W => Below wr.heap.size wr W) (by kernel_rfl) ((Below.refl _ wr).drew) (fun hS0 => ?_)
          refine tkJ 0 69 hS0 ?_; simp only [lyF]
          refine tkL 1 70 hS0 ?h ?_; case h => (intro W hW; have e0 := bcell hW a2; have e1 := bcell hW b2; have e2 := bcell hW x0; have e3 := bcell hW y0; clear hW; go_simp; try rfl); simp only [lyF]
          refine tkJ 2 71 hS0 ?_; simp only [lyF]
          refine tkJ 3 72 hS0 ?_; simp only [lyF]
          refine tkL 4 73 hS0 ?h ?_; case h => (intro W hW; have e0 := bcell hW a2; have e1 := bcell hW b2; have e2 := bcell hW x0; have e3 := bcell hW y0; clear hW; go_simp; try rfl); simp only [lyF]
          refine tkJ 5 74 hS0 ?_; simp only [lyF]
          refine tkL 6 75 hS0 ?h ?_; case h => (intro W hW; have e0 := bcell hW a2; have e1 := bcell hW b2; have e2 := bcell hW x0; have e3 := bcell hW y0; clear hW; go_simp; try rfl); simp only [lyF]
          refine tkJ 7 76 hS0 ?_; simp only [lyF]
          refine tkJ 8 77 hS0 ?_; simp only [lyF]
          refine tkL 9 78 hS0 ?h ?_; case h => (intro W hW; have e0 := bcell hW a2; have e1 := bcell hW b2; have e2 := bcell hW x0; have e3 := bcell hW y0; clear hW; go_simp; try rfl); simp only [lyF]
          refine wpAnyH_ready (rs := [10]) (by kernel_rfl) (by simp) ?_
          refine AllReadyH.cons rfl (fun K hK => ?_) AllReadyH.nil
          go_simp
          refine (Same10_ref px nx cx lx py ny cy ly _ (HX1.out.below hS0) (HX2.out.below hS0)).mono ?_
          rintro e wn ⟨rfl, hb⟩
          rw [HD.out]
          refine hK.out _ _ ?hs71 (fun hS1 => ?_)
          case hs71 => exact bel_next hS0 hb
          clear hK K hb
          try simp only [lyF]
          refine tkJ 11 80 hS1 ?_; simp only [lyF]
          refine wpAnyH_done (by kernel_rfl) ?_ _
          go_wp2
          go_ret
          exact ⟨by rw [HNO.out]; rfl, bel_next HB0.out (bel_next HBW.out (bel_next HB.out hS1))⟩
        ·obtain rfl : k0 = n2 := by omega
         have HE2 : Hid (r.2.1 = q.2.1) := by
          have h := HF.out
          rwa [List.take_of_length_le (by rw [HL2.out]; exact Nat.le_refl _), List.take_of_length_le (by rw [HM2.out]; exact Nat.le_refl _)] at h
         clear HF
         replace HBW := hide (bel_next HBW.out HB.out)
         clear HB
         generalize hww : wr = wC at *
         clear hww
         go_wp2
         go_loopw [7] (fun v wr => ∃ i : Nat, i ≤ n3 ∧ v = .int .i64 i ∧ Hid (r.2.2.1.take i = q.2.2.1.take i) ∧ Hid (Below wC.heap.size wC wr)) (fun v _ => n3 - (intOf v).toNat)
         case atStart => exact ⟨0, by omega, rfl, (show _ = _ by simp), Below.refl _ _⟩
         case round =>
          clear a3 b3 a4 b4
          obtain ⟨k0, hk, rfl, HF, HB⟩ := hrel
          have a3 := bcell (bel_next HBW.out HB.out) Z3.out
          have b3 := bcell (bel_next HBW.out HB.out) Y3.out
          have a4 := bcell (bel_next HBW.out HB.out) Z4.out
          have b4 := bcell (bel_next HBW.out HB.out) Y4.out
          by_cases hlt : k0 < n3
          ·obtain ⟨ba, oa, rfl⟩ := LS.addr HA.out.a (by omega)
           obtain ⟨bb, ob, rfl⟩ := LS.addr HQ.out.a (by omega)
           obtain ⟨px, nx, cx, lx, hx, x0, hX, _⟩ := LS.at ((HA.out.below (bel_next HB0.out (bel_next HBW.out HB.out))).a) k0 hlt
           obtain ⟨py, ny, cy, ly, hy, y0, hY, _⟩ := LS.at ((HQ.out.below (bel_next HB0.out (bel_next HBW.out HB.out))).a) k0 hlt
           have HX1 := hide hX
           have HX2 := hide hY
           have hk0 : (0 : Int) ≤ (k0 : Int) := by omega
           have hk1 : (k0 : Int) < (n3 : Int) := by omega
           have hmk : n3 ≤ 9223372036854775807 := by have h := LS.max HA.out.a; unfold maxLen at h; omega
           by_cases he : lx = ly
           ·have HD : Hid (decide (lx = ly) = true) := decide_eq_true he
            have HF2 : Hid (r.2.2.1.take (k0 + 1) = q.2.2.1.take (k0 + 1)) := by unfold Hid; rw [takeG_snoc hx, takeG_snoc hy, HF.out, he]
            clear hx hy hX hY he
            go_upto_region 16 with fail
            refine wp_region_held_drew (S := fun W => Below wr.heap.size wr W) (by kernel_rfl) ((Below.refl _ wr).drew) (fun hS0 => ?_)
            refine tkJ 0 88 hS0 ?_; simp only [lyF]
            refine tkL 1 89 hS0 ?h ?_; case h => (intro W hW; have e0 := bcell hW a3; have e1 := bcell hW b3; have e2 := bcell hW x0; have e3 := bcell hW y0; clear hW; go_simp; try rfl); simp only [lyF]
            refine tkJ 2 90 hS0 ?_; simp only [lyF]
            refine tkJ 3 91 hS0 ?_; simp only [lyF]
            refine tkL 4 92 hS0 ?h ?_; case h => (intro W hW; have e0 := bcell hW a3; have e1 := bcell hW b3; have e2 := bcell hW x0; have e3 := bcell hW y0; clear hW; go_simp; try rfl); simp only [lyF]
            refine tkJ 5 93 hS0 ?_; simp only [lyF]
            refine tkL 6 94 hS0 ?h ?_; case h => (intro W hW; have e0 := bcell hW a3; have e1 := bcell hW b3; have e2 := bcell hW x0; have e3 := bcell hW y0; clear hW; go_simp; try rfl); simp only [lyF]
            refine tkJ 7 95 hS0 ?_; simp only [lyF]
            refine tkJ 8 96 hS0 ?_; simp only [lyF]
            refine tkL 9 97 hS0 ?h ?_; case h => (intro W hW; have e0 := bcell hW a3; have e1 := bcell hW b3; have e2 := bcell hW x0; have e3 := bcell hW y0; clear hW; go_simp; try rfl); simp only [lyF]
            refine wpAnyH_ready (rs := [10]) (by kernel_rfl) (by simp) ?_
            refine AllReadyH.cons rfl (fun K hK => ?_) AllReadyH.nil
            go_simp
            refine (Same11_ref px nx cx lx py ny cy ly _ (HX1.out.below hS0) (HX2.out.below hS0)).mono ?_
            rintro e wn ⟨rfl, hb⟩
            rw [HD.out]
            refine hK.out _ _ ?hs35 (fun hS1 => ?_)
            case hs35 => exact bel_next hS0 hb
            clear hK K hb
            try simp only [lyF]
            refine tkJ 11 99 hS1 ?_; simp only [lyF]
            refine wpAnyH_done (by kernel_rfl) ?_ _
            go_wp2
            go_roundw
            case rel => exact ⟨k0 + 1, by omega, by go_num, HF2, (show Hid _ from bel_next HB.out hS1)⟩
            case measure => simp [intOf]; omega
           ·have HD : Hid (decide (lx = ly) = false) := decide_eq_false he
            have HNO : Hid (sameW r q = false) := by
             unfold Hid
             rw [sameW_no]
             rintro rfl
             rw [hx] at hy
             cases hy
             exact he rfl
            clear hx hy hX hY he
            go_upto_region 16 with fail
            refine wp_region_held_drew (S := fun W => Below wr.heap.size wr W) (by kernel_rfl) ((Below.refl _ wr).drew) (fun hS0 => ?_)
            refine tkJ 0 88 hS0 ?_; simp only [lyF]
            refine tkL 1 89 hS0 ?h ?_; case h => (intro W hW; have e0 := bcell hW a3; have e1 := bcell hW b3; have e2 := bcell hW x0; have e3 := bcell hW y0; clear hW; go_simp; try rfl); simp only [lyF]
            refine tkJ 2 90 hS0 ?_; simp only [lyF]
            refine tkJ 3 91 hS0 ?_; simp only [lyF]
            refine tkL 4 92 hS0 ?h ?_; case h => (intro W hW; have e0 := bcell hW a3; have e1 := bcell hW b3; have e2 := bcell hW x0; have e3 := bcell hW y0; clear hW; go_simp; try rfl); simp only [lyF]
            refine tkJ 5 93 hS0 ?_; simp only [lyF]
            refine tkL 6 94 hS0 ?h ?_; case h => (intro W hW; have e0 := bcell hW a3; have e1 := bcell hW b3; have e2 := bcell hW x0; have e3 := bcell hW y0; clear hW; go_simp; try rfl); simp only [lyF]
            refine tkJ 7 95 hS0 ?_; simp only [lyF]
            refine tkJ 8 96 hS0 ?_; simp only [lyF]
            refine tkL 9 97 hS0 ?h ?_; case h => (intro W hW; have e0 := bcell hW a3; have e1 := bcell hW b3; have e2 := bcell hW x0; have e3 := bcell hW y0; clear hW; go_simp; try rfl); simp only [lyF]
            refine wpAnyH_ready (rs := [10]) (by kernel_rfl) (by simp) ?_
            refine AllReadyH.cons rfl (fun K hK => ?_) AllReadyH.nil
            go_simp
            refine (Same11_ref px nx cx lx py ny cy ly _ (HX1.out.below hS0) (HX2.out.below hS0)).mono ?_
            rintro e wn ⟨rfl, hb⟩
            rw [HD.out]
            refine hK.out _ _ ?hs47 (fun hS1 => ?_)
            case hs47 => exact bel_next hS0 hb
            clear hK K hb
            try simp only [lyF]
            refine tkJ 11 99 hS1 ?_; simp only [lyF]
            refine wpAnyH_done (by kernel_rfl) ?_ _
            go_wp2
            go_ret
            exact ⟨by rw [HNO.out]; rfl, bel_next HB0.out (bel_next HBW.out (bel_next HB.out hS1))⟩
          ·obtain rfl : k0 = n3 := by omega
           have HE3 : Hid (r.2.2.1 = q.2.2.1) := by
            have h := HF.out
            rwa [List.take_of_length_le (by rw [HL3.out]; exact Nat.le_refl _), List.take_of_length_le (by rw [HM3.out]; exact Nat.le_refl _)] at h
           clear HF
           replace HBW := hide (bel_next HBW.out HB.out)
           clear HB
           generalize hww : wr = wC at *
           clear hww
           go_wp2
           go_loopw [8] (fun v wr => ∃ i : Nat, i ≤ n4 ∧ v = .int .i64 i ∧ Hid (r.2.2.2.take i = q.2.2.2.take i) ∧ Hid (Below wC.heap.size wC wr)) (fun v _ => n4 - (intOf v).toNat)
           case atStart => exact ⟨0, by omega, rfl, (show _ = _ by simp), Below.refl _ _⟩
           case round =>
            clear a4 b4
            obtain ⟨k0, hk, rfl, HF, HB⟩ := hrel
            have a4 := bcell (bel_next HBW.out HB.out) Z4.out
            have b4 := bcell (bel_next HBW.out HB.out) Y4.out
            by_cases hlt : k0 < n4
            ·obtain ⟨ba, oa, rfl⟩ := LS.addr HA.out.g (by omega)
             obtain ⟨bb, ob, rfl⟩ := LS.addr HQ.out.g (by omega)
             obtain ⟨px, nx, cx, lx, hx, x0, hX, _⟩ := LS.at ((HA.out.below (bel_next HB0.out (bel_next HBW.out HB.out))).g) k0 hlt
             obtain ⟨py, ny, cy, ly, hy, y0, hY, _⟩ := LS.at ((HQ.out.below (bel_next HB0.out (bel_next HBW.out HB.out))).g) k0 hlt
             have HX1 := hide hX
             have HX2 := hide hY
             have hk0 : (0 : Int) ≤ (k0 : Int) := by omega
             have hk1 : (k0 : Int) < (n4 : Int) := by omega
             have hmk : n4 ≤ 9223372036854775807 := by have h := LS.max HA.out.g; unfold maxLen at h; omega
             by_cases he : lx = ly
             ·have HD : Hid (decide (lx = ly) = true) := decide_eq_true he
              have HF2 : Hid (r.2.2.2.take (k0 + 1) = q.2.2.2.take (k0 + 1)) := by unfold Hid; rw [takeG_snoc hx, takeG_snoc hy, HF.out, he]
              clear hx hy hX hY he
              go_upto_region 21 with fail
              refine wp_region_held_drew (S := fun W => Below wr.heap.size wr W) (by kernel_rfl) ((Below.refl _ wr).drew) (fun hS0 => ?_)
              refine tkJ 0 107 hS0 ?_; simp only [lyF]
              refine tkL 1 108 hS0 ?h ?_; case h => (intro W hW; have e0 := bcell hW a4; have e1 := bcell hW b4; have e2 := bcell hW x0; have e3 := bcell hW y0; clear hW; go_simp; try rfl); simp only [lyF]
              refine tkJ 2 109 hS0 ?_; simp only [lyF]
              refine tkJ 3 110 hS0 ?_; simp only [lyF]
              refine tkL 4 111 hS0 ?h ?_; case h => (intro W hW; have e0 := bcell hW a4; have e1 := bcell hW b4; have e2 := bcell hW x0; have e3 := bcell hW y0; clear hW; go_simp; try rfl); simp only [lyF]
              refine tkJ 5 112 hS0 ?_; simp only [lyF]
              refine tkL 6 113 hS0 ?h ?_; case h => (intro W hW; have e0 := bcell hW a4; have e1 := bcell hW b4; have e2 := bcell hW x0; have e3 := bcell hW y0; clear hW; go_simp; try rfl); simp only [lyF]
              refine tkJ 7 114 hS0 ?_; simp only [lyF]
              refine tkJ 8 115 hS0 ?_; simp only [lyF]
              refine tkL 9 116 hS0 ?h ?_; case h => (intro W hW; have e0 := bcell hW a4; have e1 := bcell hW b4; have e2 := bcell hW x0; have e3 := bcell hW y0; clear hW; go_simp; try rfl); simp only [lyF]
              refine wpAnyH_ready (rs := [10]) (by kernel_rfl) (by simp) ?_
              refine AllReadyH.cons rfl (fun K hK => ?_) AllReadyH.nil
              go_simp
              refine (Same12_ref px nx cx lx py ny cy ly _ (HX1.out.below hS0) (HX2.out.below hS0)).mono ?_
              rintro e wn ⟨rfl, hb⟩
              rw [HD.out]
              refine hK.out _ _ ?hs11 (fun hS1 => ?_)
              case hs11 => exact bel_next hS0 hb
              clear hK K hb
              try simp only [lyF]
              refine tkJ 11 118 hS1 ?_; simp only [lyF]
              refine wpAnyH_done (by kernel_rfl) ?_ _
              go_wp2
              go_roundw
              case rel => exact ⟨k0 + 1, by omega, by go_num, HF2, (show Hid _ from bel_next HB.out hS1)⟩
              case measure => simp [intOf]; omega
             ·have HD : Hid (decide (lx = ly) = false) := decide_eq_false he
              have HNO : Hid (sameW r q = false) := by
               unfold Hid
               rw [sameW_no]
               rintro rfl
               rw [hx] at hy
               cases hy
               exact he rfl
              clear hx hy hX hY he
              go_upto_region 21 with fail
              refine wp_region_held_drew (S := fun W => Below wr.heap.size wr W) (by kernel_rfl) ((Below.refl _ wr).drew) (fun hS0 => ?_)
              refine tkJ 0 107 hS0 ?_; simp only [lyF]
              refine tkL 1 108 hS0 ?h ?_; case h => (intro W hW; have e0 := bcell hW a4; have e1 := bcell hW b4; have e2 := bcell hW x0; have e3 := bcell hW y0; clear hW; go_simp; try rfl); simp only [lyF]
              refine tkJ 2 109 hS0 ?_; simp only [lyF]
              refine tkJ 3 110 hS0 ?_; simp only [lyF]
              refine tkL 4 111 hS0 ?h ?_; case h => (intro W hW; have e0 := bcell hW a4; have e1 := bcell hW b4; have e2 := bcell hW x0; have e3 := bcell hW y0; clear hW; go_simp; try rfl); simp only [lyF]
              refine tkJ 5 112 hS0 ?_; simp only [lyF]
              refine tkL 6 113 hS0 ?h ?_; case h => (intro W hW; have e0 := bcell hW a4; have e1 := bcell hW b4; have e2 := bcell hW x0; have e3 := bcell hW y0; clear hW; go_simp; try rfl); simp only [lyF]
              refine tkJ 7 114 hS0 ?_; simp only [lyF]
              refine tkJ 8 115 hS0 ?_; simp only [lyF]
              refine tkL 9 116 hS0 ?h ?_; case h => (intro W hW; have e0 := bcell hW a4; have e1 := bcell hW b4; have e2 := bcell hW x0; have e3 := bcell hW y0; clear hW; go_simp; try rfl); simp only [lyF]
              refine wpAnyH_ready (rs := [10]) (by kernel_rfl) (by simp) ?_
              refine AllReadyH.cons rfl (fun K hK => ?_) AllReadyH.nil
              go_simp
              refine (Same12_ref px nx cx lx py ny cy ly _ (HX1.out.below hS0) (HX2.out.below hS0)).mono ?_
              rintro e wn ⟨rfl, hb⟩
              rw [HD.out]
              refine hK.out _ _ ?hs23 (fun hS1 => ?_)
              case hs23 => exact bel_next hS0 hb
              clear hK K hb
              try simp only [lyF]
              refine tkJ 11 118 hS1 ?_; simp only [lyF]
              refine wpAnyH_done (by kernel_rfl) ?_ _
              go_wp2
              go_ret
              exact ⟨by rw [HNO.out]; rfl, bel_next HB0.out (bel_next HBW.out (bel_next HB.out hS1))⟩
            ·obtain rfl : k0 = n4 := by omega
             have HE4 : Hid (r.2.2.2 = q.2.2.2) := by
              have h := HF.out
              rwa [List.take_of_length_le (by rw [HL4.out]; exact Nat.le_refl _), List.take_of_length_le (by rw [HM4.out]; exact Nat.le_refl _)] at h
             clear HF
             replace HBW := hide (bel_next HBW.out HB.out)
             clear HB
             generalize hww : wr = wC at *
             clear hww
             have HEQ : Hid (r = q) := Prod.ext HE1.out (Prod.ext HE2.out (Prod.ext HE3.out HE4.out))
             go_wp2
             go_ret
             exact ⟨by rw [sameW_yes HEQ.out]; rfl, bel_next HB0.out HBW.out⟩
    ·have HNO : Hid (sameW r q = false) := by
      unfold Hid
      rw [sameW_no]
      rintro rfl
      exact hn4 (HL4.out.symm.trans HM4.out)
     have hz4 : ¬ ((n4 : Int) = (m4 : Int)) := by omega
     have hy4 : ((n4 : Int) != (m4 : Int)) = true := by simpa using hz4
     go_enter Tryz.func20, Tryz.ntmps20
     go_wp2
     go_ret
     exact ⟨by rw [HNO.out]; rfl, HB0.out⟩
   ·have HNO : Hid (sameW r q = false) := by
     unfold Hid
     rw [sameW_no]
     rintro rfl
     exact hn3 (HL3.out.symm.trans HM3.out)
    have hz3 : ¬ ((n3 : Int) = (m3 : Int)) := by omega
    have hy3 : ((n3 : Int) != (m3 : Int)) = true := by simpa using hz3
    go_enter Tryz.func20, Tryz.ntmps20
    go_wp2
    go_ret
    exact ⟨by rw [HNO.out]; rfl, HB0.out⟩
  ·have HNO : Hid (sameW r q = false) := by
    unfold Hid
    rw [sameW_no]
    rintro rfl
    exact hn2 (HL2.out.symm.trans HM2.out)
   have hz2 : ¬ ((n2 : Int) = (m2 : Int)) := by omega
   have hy2 : ((n2 : Int) != (m2 : Int)) = true := by simpa using hz2
   go_enter Tryz.func20, Tryz.ntmps20
   go_wp2
   go_ret
   exact ⟨by rw [HNO.out]; rfl, HB0.out⟩
 ·have HNO : Hid (sameW r q = false) := by
   unfold Hid
   rw [sameW_no]
   rintro rfl
   exact hn1 (HL1.out.symm.trans HM1.out)
  have hz1 : ¬ ((n1 : Int) = (m1 : Int)) := by omega
  have hy1 : ((n1 : Int) != (m1 : Int)) = true := by simpa using hz1
  go_enter Tryz.func20, Tryz.ntmps20
  go_wp2
  go_ret
  exact ⟨by rw [HNO.out]; rfl, HB0.out⟩
end Go.Proofs.YtkbbegbpkndebaaGreat

