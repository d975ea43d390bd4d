/- Texts of this claim, joined: GTb, GTp, GEb, GEp. -/
import Derived.Lib.AppendZeros
import Derived.Test.YtkbbegbpkndebaaGreatJ13
import Derived.Test.YtkbbegbpkndebaaGreatJ28
import Derived.Test.YtkbbegbpkndebaaGreatJ29
import Derived.Test.YtkbbegbpkndebaaGreatJ7
/- Where a key stands in a tally (layer 10); a tally copied; tallies compared. -/
namespace Go.Proofs.YtkbbegbpkndebaaGreat
open Go.RowKit Go.Lib
set_option linter.unusedVariables false
set_option maxHeartbeats 4000000 in
theorem equalT_any (a : Option Addr) (n cap : Nat) (s : List Ce) (a' : Option Addr) (n' cap' : Nat) (s' : List Ce) (w : World) (hA : TS w a n s) (hA' : TS w a' n' s') : Calls Tryz.prog 150 #[.slice a n cap, .slice a' n' cap'] w fun e w' => e = .returned (.bool (decide (s = s'))) ∧ Below w.heap.size w w' := by
 have HV := hide hA
 have HV' := hide hA'
 have HLEN := hide hA.1
 have HLEN' := hide hA'.1
 have hmx := hA.2.1
 unfold maxLen at hmx
 clear hA hA'
 by_cases hnn : n = n'
 ·subst hnn
  go_enter Tryz.func150, Tryz.ntmps150
  go_wp2
  go_loopw [13] (fun v wr => ∃ k : Nat, k ≤ n ∧ v = .int .i64 k ∧ Hid (s.take k = s'.take k) ∧ Hid (Below w.heap.size w wr)) (fun v _ => n - (intOf v).toNat)
  case atStart => exact ⟨0, by omega, rfl, (show _ = _ by simp), Below.refl _ _⟩
  case round =>
   obtain ⟨k0, hk, rfl, HF, HB⟩ := hrel
   by_cases hlt : k0 < n
   ·obtain ⟨b, off, rfl⟩ := HV.out.addr (by omega)
    obtain ⟨b', off', rfl⟩ := HV'.out.addr (by omega)
    obtain ⟨k, m, hx, c0, c1⟩ := (HV.out.below HB.out).at k0 hlt
    obtain ⟨k', m', hx', d0, d1⟩ := (HV'.out.below HB.out).at k0 hlt
    have hk0 : (0 : Int) ≤ (k0 : Int) := by omega
    have hk1 : (k0 : Int) < (n : Int) := by omega
    have hq := eqK k k'
    have HX := hide hx
    have HX' := hide hx'
    clear hx hx'
    by_cases he : k = k'
    ·rw [decide_eq_true he] at hq
     by_cases hm : m = m'
     ·have HF2 : Hid (s.take (k0 + 1) = s'.take (k0 + 1)) := by unfold Hid; rw [takeG_snoc HX.out, takeG_snoc HX'.out, HF.out, he, hm]
      have hm2 : (m == m') = true := by rw [hm]; simp
      subst he hm
      go_upto_region 6 with fail
      refine wp_region_held_drew (S := fun W => Below wr.heap.size wr W) (by kernel_rfl) ((Below.refl _ wr).drew) (fun hS0 => ?_)
      refine tkJ 0 16 hS0 ?_; simp only [ly]
      refine tkJ 1 17 hS0 ?_; simp only [ly]
      refine tkJ 2 18 hS0 ?_; simp only [ly]
      refine tkL 3 19 hS0 ?h ?_; case h => (intro W hW; have e0 := bcell hW c0; have e1 := bcell hW c1; have e2 := bcell hW d0; have e3 := bcell hW d1; clear hW; go_simp; try rfl); simp only [ly]
      refine tkJ 4 20 hS0 ?_; simp only [ly]
      refine tkJ 5 21 hS0 ?_; simp only [ly]
      refine tkJ 6 22 hS0 ?_; simp only [ly]
      refine tkL 7 23 hS0 ?h ?_; case h => (intro W hW; have e0 := bcell hW c0; have e1 := bcell hW c1; have e2 := bcell hW d0; have e3 := bcell hW d1; clear hW; go_simp; try rfl); simp only [ly]
      refine tkJ 8 24 hS0 ?_; simp only [ly]
      refine wpAnyH_done (by kernel_rfl) ?_ _
      go_wp2
      go_roundw
      case rel => exact ⟨k0 + 1, by omega, by go_num, HF2, (show Hid _ from bel_next HB.out hS0)⟩
      case measure => simp [intOf]; omega
     ·have HNO : Hid (decide (s = s') = false) := by
       unfold Hid
       rw [decide_eq_false_iff_not]
       intro q
       have h1 := HX.out
       rw [q, HX'.out] at h1
       cases h1
       exact hm rfl
      have hm2 : (m == m') = false := by rw [beq_eq_false_iff_ne]; exact hm
      subst he
      go_upto_region 6 with fail
      refine wp_region_held_drew (S := fun W => Below wr.heap.size wr W) (by kernel_rfl) ((Below.refl _ wr).drew) (fun hS0 => ?_)
      refine tkJ 0 16 hS0 ?_; simp only [ly]
      refine tkJ 1 17 hS0 ?_; simp only [ly]
      refine tkJ 2 18 hS0 ?_; simp only [ly]
      refine tkL 3 19 hS0 ?h ?_; case h => (intro W hW; have e0 := bcell hW c0; have e1 := bcell hW c1; have e2 := bcell hW d0; have e3 := bcell hW d1; clear hW; go_simp; try rfl); simp only [ly]
      refine tkJ 4 20 hS0 ?_; simp only [ly]
      refine tkJ 5 21 hS0 ?_; simp only [ly]
      refine tkJ 6 22 hS0 ?_; simp only [ly]
      refine tkL 7 23 hS0 ?h ?_; case h => (intro W hW; have e0 := bcell hW c0; have e1 := bcell hW c1; have e2 := bcell hW d0; have e3 := bcell hW d1; clear hW; go_simp; try rfl); simp only [ly]
      refine tkJ 8 24 hS0 ?_; simp only [ly]
      refine wpAnyH_done (by kernel_rfl) ?_ _
      go_wp2
      go_ret
      exact ⟨by rw [HNO.out]; rfl, bel_next HB.out hS0⟩
    ·have HNO : Hid (decide (s = s') = false) := by
      unfold Hid
      rw [decide_eq_false_iff_not]
      intro q
      have h1 := HX.out
      rw [q, HX'.out] at h1
      cases h1
      exact he rfl
     rw [decide_eq_false he] at hq
     go_upto_region 6 with fail
     refine wp_region_held_drew (S := fun W => Below wr.heap.size wr W) (by kernel_rfl) ((Below.refl _ wr).drew) (fun hS0 => ?_)
     refine tkJ 0 16 hS0 ?_; simp only [ly]
     refine tkJ 1 17 hS0 ?_; simp only [ly]
     refine tkJ 2 18 hS0 ?_; simp only [ly]
     refine tkL 3 19 hS0 ?h ?_; case h => (intro W hW; have e0 := bcell hW c0; have e1 := bcell hW c1; have e2 := bcell hW d0; have e3 := bcell hW d1; clear hW; go_simp; try rfl); simp only [ly]
     refine tkJ 4 20 hS0 ?_; simp only [ly]
     refine tkJ 5 21 hS0 ?_; simp only [ly]
     refine tkJ 6 22 hS0 ?_; simp only [ly]
     refine tkL 7 23 hS0 ?h ?_; case h => (intro W hW; have e0 := bcell hW c0; have e1 := bcell hW c1; have e2 := bcell hW d0; have e3 := bcell hW d1; clear hW; go_simp; try rfl); simp only [ly]
     refine tkJ 8 24 hS0 ?_; simp only [ly]
     refine wpAnyH_done (by kernel_rfl) ?_ _
     go_wp2
     go_ret
     exact ⟨by rw [HNO.out]; rfl, bel_next HB.out hS0⟩
   ·obtain rfl : k0 = n := by omega
    have HR : Hid (s = s') := by
     have := HF.out
     rwa [List.take_of_length_le (by rw [HLEN.out]; exact Nat.le_refl _), List.take_of_length_le (by rw [HLEN'.out]; exact Nat.le_refl _)] at this
    clear HF
    go_wp2
    go_ret
    exact ⟨by rw [decide_eq_true HR.out]; rfl, HB.out⟩
 ·have HNO : Hid (decide (s = s') = false) := by
   unfold Hid
   rw [decide_eq_false_iff_not]
   intro q
   have := HLEN.out
   rw [q, HLEN'.out] at this
   exact hnn this.symm
  have hnz : ¬ (n : Int) = (n' : Int) := by omega
  have hnb : ((n : Int) == (n' : Int)) = false := by rw [beq_eq_false_iff_ne]; exact hnz
  go_enter Tryz.func150, Tryz.ntmps150
  go_wp2
  go_ret
  exact ⟨by rw [HNO.out]; rfl, Below.refl _ _⟩
end Go.Proofs.YtkbbegbpkndebaaGreat

/- What the program's exported functions of layer 10 tell. -/
namespace Go.Proofs.YtkbbegbpkndebaaGreat
open Go.RowKit Go.Lib
set_option linter.unusedVariables false
set_option maxHeartbeats 1000000 in
theorem Same10_any (a : Option Addr) (n cap : Nat) (s : List Ce) (a' : Option Addr) (n' cap' : Nat) (s' : List Ce) (w : World) (hA : TS w a n s) (hA' : TS w a' n' s') : Calls Tryz.prog 92 #[.slice a n cap, .slice a' n' cap'] w fun e w' => e = .returned (.bool (decide (s = s'))) ∧ Below w.heap.size w w' := by
 have HM := hide (equalT_any a n cap s a' n' cap' s' w hA hA')
 clear hA hA'
 go_enter Tryz.func92, Tryz.ntmps92
 go_wp2_with (go_at_call 150; refine HM.out.mono ?_; rintro e w1 ⟨rfl, hb⟩)
 go_ret
 exact ⟨rfl, hb⟩
end Go.Proofs.YtkbbegbpkndebaaGreat

/- Where a key stands in accounts (layer 11); what all have; accounts compared. -/
namespace Go.Proofs.YtkbbegbpkndebaaGreat
open Go.RowKit Go.Lib
set_option linter.unusedVariables false
set_option maxHeartbeats 4000000 in
theorem equalA_any (a : Option Addr) (n cap : Nat) (s : List Ac) (a' : Option Addr) (n' cap' : Nat) (s' : List Ac) (w : World) (hA : AC w a n s) (hA' : AC w a' n' s') : Calls Tryz.prog 151 #[.slice a n cap, .slice a' n' cap'] w fun e w' => e = .returned (.bool (decide (s = s'))) ∧ Below w.heap.size w w' := by
 have HV := hide hA
 have HV' := hide hA'
 have HLEN := hide hA.1.1
 have HLEN' := hide hA'.1.1
 have hmx := hA.1.2.1
 unfold maxLen at hmx
 clear hA hA'
 by_cases hnn : n = n'
 ·subst hnn
  go_enter Tryz.func151, Tryz.ntmps151
  go_wp2
  go_loopw [13] (fun v wr => ∃ k : Nat, k ≤ n ∧ v = .int .i64 k ∧ Hid (s.take k = s'.take k) ∧ Hid (Below w.heap.size w wr)) (fun v _ => n - (intOf v).toNat)
  case atStart => exact ⟨0, by omega, rfl, (show _ = _ by simp), Below.refl _ _⟩
  case round =>
   obtain ⟨k0, hk, rfl, HF, HB⟩ := hrel
   by_cases hlt : k0 < n
   ·obtain ⟨b, off, rfl⟩ := HV.out.addr (by omega)
    obtain ⟨b', off', rfl⟩ := HV'.out.addr (by omega)
    obtain ⟨k, g0, g1, g2, g3, g4, hx, c0, c1, c2, c3, c4, c5⟩ := (HV.out.below HB.out).five k0 hlt
    obtain ⟨k', h0, h1, h2, h3, h4, hx', d0, d1, d2, d3, d4, d5⟩ := (HV'.out.below HB.out).five k0 hlt
    have hk0 : (0 : Int) ≤ (k0 : Int) := by omega
    have hk1 : (k0 : Int) < (n : Int) := by omega
    have hq := eqK k k'
    have HX := hide hx
    have HX' := hide hx'
    clear hx hx'
    by_cases he : k = k'
    ·rw [decide_eq_true he] at hq
     subst he
     by_cases hm0 : g0 = h0
     ·subst hm0
      by_cases hm1 : g1 = h1
      ·subst hm1
       by_cases hm2 : g2 = h2
       ·subst hm2
        by_cases hm3 : g3 = h3
        ·subst hm3
         by_cases hm4 : g4 = h4
         ·subst hm4
          have hE : ∀ W, Sem.run Tryz.prog (Op.equalIn 9999 132 (.agg #[.int .i64 g0, .int .i64 g1, .int .i64 g2, .int .i64 g3, .int .i64 g4]) (.agg #[.int .i64 g0, .int .i64 g1, .int .i64 g2, .int .i64 g3, .int .i64 g4])) W = .ok true W := fun W => (eql5 9997 g0 g1 g2 g3 g4 g0 g1 g2 g3 g4 W).trans (by simp)
          have HF2 : Hid (s.take (k0 + 1) = s'.take (k0 + 1)) := by unfold Hid; rw [takeG_snoc HX.out, takeG_snoc HX'.out, HF.out]
          go_upto_region 6 with fail
          refine wp_region_held_drew (S := fun W => Below wr.heap.size wr W) (by kernel_rfl) ((Below.refl _ wr).drew) (fun hS0 => ?_)
          refine tkJ 0 16 hS0 ?_; simp only [ly]
          refine tkJ 1 17 hS0 ?_; simp only [ly]
          refine tkJ 2 18 hS0 ?_; simp only [ly]
          refine tkL 3 19 hS0 ?h ?_; case h => (intro W hW; have e0 := bcell hW c0; have e1 := bcell hW c1; have e2 := bcell hW c2; have e3 := bcell hW c3; have e4 := bcell hW c4; have e5 := bcell hW c5; have e6 := bcell hW d0; have e7 := bcell hW d1; have e8 := bcell hW d2; have e9 := bcell hW d3; have e10 := bcell hW d4; have e11 := bcell hW d5; clear hW; go_simp; try rfl); simp only [ly]
          refine tkJ 4 20 hS0 ?_; simp only [ly]
          refine tkJ 5 21 hS0 ?_; simp only [ly]
          refine tkJ 6 22 hS0 ?_; simp only [ly]
          refine tkL 7 23 hS0 ?h ?_; case h => (intro W hW; have e0 := bcell hW c0; have e1 := bcell hW c1; have e2 := bcell hW c2; have e3 := bcell hW c3; have e4 := bcell hW c4; have e5 := bcell hW c5; have e6 := bcell hW d0; have e7 := bcell hW d1; have e8 := bcell hW d2; have e9 := bcell hW d3; have e10 := bcell hW d4; have e11 := bcell hW d5; clear hW; go_simp; try rfl); simp only [ly]
          refine tkJ 8 24 hS0 ?_; simp only [ly]
          refine wpAnyH_done (by kernel_rfl) ?_ _
          go_wp2
          go_roundw
          case rel => exact ⟨k0 + 1, by omega, by go_num, HF2, (show Hid _ from bel_next HB.out hS0)⟩
          case measure => simp [intOf]; omega
         ·have HNO : Hid (decide (s = s') = false) := by
           unfold Hid
           rw [decide_eq_false_iff_not]
           intro q
           have h1 := HX.out
           rw [q, HX'.out] at h1
           cases h1
           exact hm4 rfl
          have hb4 : (g4 == h4) = false := by rw [beq_eq_false_iff_ne]; exact hm4
          have hE : ∀ W, Sem.run Tryz.prog (Op.equalIn 9999 132 (.agg #[.int .i64 g0, .int .i64 g1, .int .i64 g2, .int .i64 g3, .int .i64 g4]) (.agg #[.int .i64 g0, .int .i64 g1, .int .i64 g2, .int .i64 g3, .int .i64 h4])) W = .ok false W := fun W => (eql5 9997 g0 g1 g2 g3 g4 g0 g1 g2 g3 h4 W).trans (by rw [hb4]; simp)
          go_upto_region 6 with fail
          refine wp_region_held_drew (S := fun W => Below wr.heap.size wr W) (by kernel_rfl) ((Below.refl _ wr).drew) (fun hS0 => ?_)
          refine tkJ 0 16 hS0 ?_; simp only [ly]
          refine tkJ 1 17 hS0 ?_; simp only [ly]
          refine tkJ 2 18 hS0 ?_; simp only [ly]
          refine tkL 3 19 hS0 ?h ?_; case h => (intro W hW; have e0 := bcell hW c0; have e1 := bcell hW c1; have e2 := bcell hW c2; have e3 := bcell hW c3; have e4 := bcell hW c4; have e5 := bcell hW c5; have e6 := bcell hW d0; have e7 := bcell hW d1; have e8 := bcell hW d2; have e9 := bcell hW d3; have e10 := bcell hW d4; have e11 := bcell hW d5; clear hW; go_simp; try rfl); simp only [ly]
          refine tkJ 4 20 hS0 ?_; simp only [ly]
          refine tkJ 5 21 hS0 ?_; simp only [ly]
          refine tkJ 6 22 hS0 ?_; simp only [ly]
          refine tkL 7 23 hS0 ?h ?_; case h => (intro W hW; have e0 := bcell hW c0; have e1 := bcell hW c1; have e2 := bcell hW c2; have e3 := bcell hW c3; have e4 := bcell hW c4; have e5 := bcell hW c5; have e6 := bcell hW d0; have e7 := bcell hW d1; have e8 := bcell hW d2; have e9 := bcell hW d3; have e10 := bcell hW d4; have e11 := bcell hW d5; clear hW; go_simp; try rfl); simp only [ly]
          refine tkJ 8 24 hS0 ?_; simp only [ly]
          refine wpAnyH_done (by kernel_rfl) ?_ _
          go_wp2
          go_ret
          exact ⟨by rw [HNO.out]; rfl, bel_next HB.out hS0⟩
        ·have HNO : Hid (decide (s = s') = false) := by
          unfold Hid
          rw [decide_eq_false_iff_not]
          intro q
          have h1 := HX.out
          rw [q, HX'.out] at h1
          cases h1
          exact hm3 rfl
         have hb3 : (g3 == h3) = false := by rw [beq_eq_false_iff_ne]; exact hm3
         have hE : ∀ W, Sem.run Tryz.prog (Op.equalIn 9999 132 (.agg #[.int .i64 g0, .int .i64 g1, .int .i64 g2, .int .i64 g3, .int .i64 g4]) (.agg #[.int .i64 g0, .int .i64 g1, .int .i64 g2, .int .i64 h3, .int .i64 h4])) W = .ok false W := fun W => (eql5 9997 g0 g1 g2 g3 g4 g0 g1 g2 h3 h4 W).trans (by rw [hb3]; simp)
         go_upto_region 6 with fail
         refine wp_region_held_drew (S := fun W => Below wr.heap.size wr W) (by kernel_rfl) ((Below.refl _ wr).drew) (fun hS0 => ?_)
         refine tkJ 0 16 hS0 ?_; simp only [ly]
         refine tkJ 1 17 hS0 ?_; simp only [ly]
         refine tkJ 2 18 hS0 ?_; simp only [ly]
         refine tkL 3 19 hS0 ?h ?_; case h => (intro W hW; have e0 := bcell hW c0; have e1 := bcell hW c1; have e2 := bcell hW c2; have e3 := bcell hW c3; have e4 := bcell hW c4; have e5 := bcell hW c5; have e6 := bcell hW d0; have e7 := bcell hW d1; have e8 := bcell hW d2; have e9 := bcell hW d3; have e10 := bcell hW d4; have e11 := bcell hW d5; clear hW; go_simp; try rfl); simp only [ly]
         refine tkJ 4 20 hS0 ?_; simp only [ly]
         refine tkJ 5 21 hS0 ?_; simp only [ly]
         refine tkJ 6 22 hS0 ?_; simp only [ly]
         refine tkL 7 23 hS0 ?h ?_; case h => (intro W hW; have e0 := bcell hW c0; have e1 := bcell hW c1; have e2 := bcell hW c2; have e3 := bcell hW c3; have e4 := bcell hW c4; have e5 := bcell hW c5; have e6 := bcell hW d0; have e7 := bcell hW d1; have e8 := bcell hW d2; have e9 := bcell hW d3; have e10 := bcell hW d4; have e11 := bcell hW d5; clear hW; go_simp; try rfl); simp only [ly]
         refine tkJ 8 24 hS0 ?_; simp only [ly]
         refine wpAnyH_done (by kernel_rfl) ?_ _
         go_wp2
         go_ret
         exact ⟨by rw [HNO.out]; rfl, bel_next HB.out hS0⟩
       ·have HNO : Hid (decide (s = s') = false) := by
         unfold Hid
         rw [decide_eq_false_iff_not]
         intro q
         have h1 := HX.out
         rw [q, HX'.out] at h1
         cases h1
         exact hm2 rfl
        have hb2 : (g2 == h2) = false := by rw [beq_eq_false_iff_ne]; exact hm2
        have hE : ∀ W, Sem.run Tryz.prog (Op.equalIn 9999 132 (.agg #[.int .i64 g0, .int .i64 g1, .int .i64 g2, .int .i64 g3, .int .i64 g4]) (.agg #[.int .i64 g0, .int .i64 g1, .int .i64 h2, .int .i64 h3, .int .i64 h4])) W = .ok false W := fun W => (eql5 9997 g0 g1 g2 g3 g4 g0 g1 h2 h3 h4 W).trans (by rw [hb2]; simp)
        go_upto_region 6 with fail
        refine wp_region_held_drew (S := fun W => Below wr.heap.size wr W) (by kernel_rfl) ((Below.refl _ wr).drew) (fun hS0 => ?_)
        refine tkJ 0 16 hS0 ?_; simp only [ly]
        refine tkJ 1 17 hS0 ?_; simp only [ly]
        refine tkJ 2 18 hS0 ?_; simp only [ly]
        refine tkL 3 19 hS0 ?h ?_; case h => (intro W hW; have e0 := bcell hW c0; have e1 := bcell hW c1; have e2 := bcell hW c2; have e3 := bcell hW c3; have e4 := bcell hW c4; have e5 := bcell hW c5; have e6 := bcell hW d0; have e7 := bcell hW d1; have e8 := bcell hW d2; have e9 := bcell hW d3; have e10 := bcell hW d4; have e11 := bcell hW d5; clear hW; go_simp; try rfl); simp only [ly]
        refine tkJ 4 20 hS0 ?_; simp only [ly]
        refine tkJ 5 21 hS0 ?_; simp only [ly]
        refine tkJ 6 22 hS0 ?_; simp only [ly]
        refine tkL 7 23 hS0 ?h ?_; case h => (intro W hW; have e0 := bcell hW c0; have e1 := bcell hW c1; have e2 := bcell hW c2; have e3 := bcell hW c3; have e4 := bcell hW c4; have e5 := bcell hW c5; have e6 := bcell hW d0; have e7 := bcell hW d1; have e8 := bcell hW d2; have e9 := bcell hW d3; have e10 := bcell hW d4; have e11 := bcell hW d5; clear hW; go_simp; try rfl); simp only [ly]
        refine tkJ 8 24 hS0 ?_; simp only [ly]
        refine wpAnyH_done (by kernel_rfl) ?_ _
        go_wp2
        go_ret
        exact ⟨by rw [HNO.out]; rfl, bel_next HB.out hS0⟩
      ·have HNO : Hid (decide (s = s') = false) := by
        unfold Hid
        rw [decide_eq_false_iff_not]
        intro q
        have h1 := HX.out
        rw [q, HX'.out] at h1
        cases h1
        exact hm1 rfl
       have hb1 : (g1 == h1) = false := by rw [beq_eq_false_iff_ne]; exact hm1
       have hE : ∀ W, Sem.run Tryz.prog (Op.equalIn 9999 132 (.agg #[.int .i64 g0, .int .i64 g1, .int .i64 g2, .int .i64 g3, .int .i64 g4]) (.agg #[.int .i64 g0, .int .i64 h1, .int .i64 h2, .int .i64 h3, .int .i64 h4])) W = .ok false W := fun W => (eql5 9997 g0 g1 g2 g3 g4 g0 h1 h2 h3 h4 W).trans (by rw [hb1]; simp)
       go_upto_region 6 with fail
       refine wp_region_held_drew (S := fun W => Below wr.heap.size wr W) (by kernel_rfl) ((Below.refl _ wr).drew) (fun hS0 => ?_)
       refine tkJ 0 16 hS0 ?_; simp only [ly]
       refine tkJ 1 17 hS0 ?_; simp only [ly]
       refine tkJ 2 18 hS0 ?_; simp only [ly]
       refine tkL 3 19 hS0 ?h ?_; case h => (intro W hW; have e0 := bcell hW c0; have e1 := bcell hW c1; have e2 := bcell hW c2; have e3 := bcell hW c3; have e4 := bcell hW c4; have e5 := bcell hW c5; have e6 := bcell hW d0; have e7 := bcell hW d1; have e8 := bcell hW d2; have e9 := bcell hW d3; have e10 := bcell hW d4; have e11 := bcell hW d5; clear hW; go_simp; try rfl); simp only [ly]
       refine tkJ 4 20 hS0 ?_; simp only [ly]
       refine tkJ 5 21 hS0 ?_; simp only [ly]
       refine tkJ 6 22 hS0 ?_; simp only [ly]
       refine tkL 7 23 hS0 ?h ?_; case h => (intro W hW; have e0 := bcell hW c0; have e1 := bcell hW c1; have e2 := bcell hW c2; have e3 := bcell hW c3; have e4 := bcell hW c4; have e5 := bcell hW c5; have e6 := bcell hW d0; have e7 := bcell hW d1; have e8 := bcell hW d2; have e9 := bcell hW d3; have e10 := bcell hW d4; have e11 := bcell hW d5; clear hW; go_simp; try rfl); simp only [ly]
       refine tkJ 8 24 hS0 ?_; simp only [ly]
       refine wpAnyH_done (by kernel_rfl) ?_ _
       go_wp2
       go_ret
       exact ⟨by rw [HNO.out]; rfl, bel_next HB.out hS0⟩
     ·have HNO : Hid (decide (s = s') = false) := by
       unfold Hid
       rw [decide_eq_false_iff_not]
       intro q
       have h1 := HX.out
       rw [q, HX'.out] at h1
       cases h1
       exact hm0 rfl
      have hb0 : (g0 == h0) = false := by rw [beq_eq_false_iff_ne]; exact hm0
      have hE : ∀ W, Sem.run Tryz.prog (Op.equalIn 9999 132 (.agg #[.int .i64 g0, .int .i64 g1, .int .i64 g2, .int .i64 g3, .int .i64 g4]) (.agg #[.int .i64 h0, .int .i64 h1, .int .i64 h2, .int .i64 h3, .int .i64 h4])) W = .ok false W := fun W => (eql5 9997 g0 g1 g2 g3 g4 h0 h1 h2 h3 h4 W).trans (by rw [hb0]; simp)
      go_upto_region 6 with fail
      refine wp_region_held_drew (S := fun W => Below wr.heap.size wr W) (by kernel_rfl) ((Below.refl _ wr).drew) (fun hS0 => ?_)
      refine tkJ 0 16 hS0 ?_; simp only [ly]
      refine tkJ 1 17 hS0 ?_; simp only [ly]
      refine tkJ 2 18 hS0 ?_; simp only [ly]
      refine tkL 3 19 hS0 ?h ?_; case h => (intro W hW; have e0 := bcell hW c0; have e1 := bcell hW c1; have e2 := bcell hW c2; have e3 := bcell hW c3; have e4 := bcell hW c4; have e5 := bcell hW c5; have e6 := bcell hW d0; have e7 := bcell hW d1; have e8 := bcell hW d2; have e9 := bcell hW d3; have e10 := bcell hW d4; have e11 := bcell hW d5; clear hW; go_simp; try rfl); simp only [ly]
      refine tkJ 4 20 hS0 ?_; simp only [ly]
      refine tkJ 5 21 hS0 ?_; simp only [ly]
      refine tkJ 6 22 hS0 ?_; simp only [ly]
      refine tkL 7 23 hS0 ?h ?_; case h => (intro W hW; have e0 := bcell hW c0; have e1 := bcell hW c1; have e2 := bcell hW c2; have e3 := bcell hW c3; have e4 := bcell hW c4; have e5 := bcell hW c5; have e6 := bcell hW d0; have e7 := bcell hW d1; have e8 := bcell hW d2; have e9 := bcell hW d3; have e10 := bcell hW d4; have e11 := bcell hW d5; clear hW; go_simp; try rfl); simp only [ly]
      refine tkJ 8 24 hS0 ?_; simp only [ly]
      refine wpAnyH_done (by kernel_rfl) ?_ _
      go_wp2
      go_ret
      exact ⟨by rw [HNO.out]; rfl, bel_next HB.out hS0⟩
    ·have HNO : Hid (decide (s = s') = false) := by
      unfold Hid
      rw [decide_eq_false_iff_not]
      intro q
      have h1 := HX.out
      rw [q, HX'.out] at h1
      cases h1
      exact he rfl
     rw [decide_eq_false he] at hq
     go_upto_region 6 with fail
     refine wp_region_held_drew (S := fun W => Below wr.heap.size wr W) (by kernel_rfl) ((Below.refl _ wr).drew) (fun hS0 => ?_)
     refine tkJ 0 16 hS0 ?_; simp only [ly]
     refine tkJ 1 17 hS0 ?_; simp only [ly]
     refine tkJ 2 18 hS0 ?_; simp only [ly]
     refine tkL 3 19 hS0 ?h ?_; case h => (intro W hW; have e0 := bcell hW c0; have e1 := bcell hW c1; have e2 := bcell hW c2; have e3 := bcell hW c3; have e4 := bcell hW c4; have e5 := bcell hW c5; have e6 := bcell hW d0; have e7 := bcell hW d1; have e8 := bcell hW d2; have e9 := bcell hW d3; have e10 := bcell hW d4; have e11 := bcell hW d5; clear hW; go_simp; try rfl); simp only [ly]
     refine tkJ 4 20 hS0 ?_; simp only [ly]
     refine tkJ 5 21 hS0 ?_; simp only [ly]
     refine tkJ 6 22 hS0 ?_; simp only [ly]
     refine tkL 7 23 hS0 ?h ?_; case h => (intro W hW; have e0 := bcell hW c0; have e1 := bcell hW c1; have e2 := bcell hW c2; have e3 := bcell hW c3; have e4 := bcell hW c4; have e5 := bcell hW c5; have e6 := bcell hW d0; have e7 := bcell hW d1; have e8 := bcell hW d2; have e9 := bcell hW d3; have e10 := bcell hW d4; have e11 := bcell hW d5; clear hW; go_simp; try rfl); simp only [ly]
     refine tkJ 8 24 hS0 ?_; simp only [ly]
     refine wpAnyH_done (by kernel_rfl) ?_ _
     go_wp2
     go_ret
     exact ⟨by rw [HNO.out]; rfl, bel_next HB.out hS0⟩
   ·obtain rfl : k0 = n := by omega
    have HR : Hid (s = s') := by
     have := HF.out
     rwa [List.take_of_length_le (by rw [HLEN.out]; exact Nat.le_refl _), List.take_of_length_le (by rw [HLEN'.out]; exact Nat.le_refl _)] at this
    clear HF
    go_wp2
    go_ret
    exact ⟨by rw [decide_eq_true HR.out]; rfl, HB.out⟩
 ·have HNO : Hid (decide (s = s') = false) := by
   unfold Hid
   rw [decide_eq_false_iff_not]
   intro q
   have := HLEN.out
   rw [q, HLEN'.out] at this
   exact hnn this.symm
  have hnz : ¬ (n : Int) = (n' : Int) := by omega
  have hnb : ((n : Int) == (n' : Int)) = false := by rw [beq_eq_false_iff_ne]; exact hnz
  go_enter Tryz.func151, Tryz.ntmps151
  go_wp2
  go_ret
  exact ⟨by rw [HNO.out]; rfl, Below.refl _ _⟩
end Go.Proofs.YtkbbegbpkndebaaGreat

/- What the program's exported functions of layer 11 tell. -/
namespace Go.Proofs.YtkbbegbpkndebaaGreat
open Go.RowKit Go.Lib
set_option linter.unusedVariables false
theorem ix5_at (h : List Int) {q : Nat} (hq : q < 5) (W : World) : (Instr.index 132 (.agg #[.int .i64 (atH h 0), .int .i64 (atH h 1), .int .i64 (atH h 2), .int .i64 (atH h 3), .int .i64 (atH h 4)]) (.int .i64 (q : Int))).run Tryz.prog W = .ok (.int .i64 (atH h q)) W := by
 rcases (by omega : q = 0 ∨ q = 1 ∨ q = 2 ∨ q = 3 ∨ q = 4) with rfl | rfl | rfl | rfl | rfl
 ·exact ix5_0 _ _ _ _ _ W
 ·exact ix5_1 _ _ _ _ _ W
 ·exact ix5_2 _ _ _ _ _ W
 ·exact ix5_3 _ _ _ _ _ W
 ·exact ix5_4 _ _ _ _ _ W
set_option maxHeartbeats 1000000 in
theorem Same11_any (a : Option Addr) (n cap : Nat) (s : List Ac) (a' : Option Addr) (n' cap' : Nat) (s' : List Ac) (w : World) (hA : AC w a n s) (hA' : AC w a' n' s') : Calls Tryz.prog 94 #[.slice a n cap, .slice a' n' cap'] w fun e w' => e = .returned (.bool (decide (s = s'))) ∧ Below w.heap.size w w' := by
 have HM := hide (equalA_any a n cap s a' n' cap' s' w hA hA')
 clear hA hA'
 go_enter Tryz.func94, Tryz.ntmps94
 go_wp2_with (go_at_call 151; refine HM.out.mono ?_; rintro e w1 ⟨rfl, hb⟩)
 go_ret
 exact ⟨rfl, hb⟩
end Go.Proofs.YtkbbegbpkndebaaGreat

