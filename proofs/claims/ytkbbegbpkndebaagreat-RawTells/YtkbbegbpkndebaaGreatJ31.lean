/- Texts of this claim, joined: HP1. -/
import Derived.Test.YtkbbegbpkndebaaGreatJ26
import Derived.Test.YtkbbegbpkndebaaGreatJ27
import Derived.Test.YtkbbegbpkndebaaGreatJ28
import Derived.Test.YtkbbegbpkndebaaGreatJ29
import Derived.Test.YtkbbegbpkndebaaGreatJ30
import Derived.Test.YtkbbegbpkndebaaGreatJ7
/- The program's CheckKinds and Check of layer 13. -/
namespace Go.Proofs.YtkbbegbpkndebaaGreat
open Go.RowKit Go.Lib
set_option linter.unusedVariables false
def chkK (k : Kd) : Int := if kindsB k = true then 0 else 1
def chkW (k : Kd) (r : Rw) : Int := if mayW k r = true then 0 else 1
set_option maxHeartbeats 2000000 in
theorem floor13 (is : Bool) (fat : Int) (w : World) : Calls Tryz.prog 52 #[.agg #[.bool is, .int .i64 fat]] w fun e w' => e = .returned (.bool (floB (is, fat))) ∧ Below w.heap.size w w' := by
 have HB0 := hide (bel1 w (.cells #[.bool is, .int .i64 fat] 84))
 have z0 := cell_new w #[.bool is, .int .i64 fat] 84 _ rfl 0 _ rfl
 have z1 := cell_new w #[.bool is, .int .i64 fat] 84 _ rfl 1 _ rfl
 rcases is with _ | _
 ·by_cases h : fat = 0
  ·subst h
   have HR : Hid (floB (false, 0) = true) := by unfold Hid; decide
   go_enter Tryz.func52, Tryz.ntmps52
   go_wp2
   go_ret
   exact ⟨by rw [HR.out]; first | rfl | (simp; omega), HB0.out⟩
  ·have HR : Hid (floB (false, fat) = false) := by unfold Hid floB; simp [h]
   have h1 : (fat == 0) = false := by simpa using h
   clear h
   go_enter Tryz.func52, Tryz.ntmps52
   go_wp2
   go_ret
   exact ⟨by rw [HR.out]; first | rfl | (simp; omega), HB0.out⟩
 ·by_cases h1 : fat ≤ 0
  ·by_cases h2 : -1000 ≤ fat
   ·have HR : Hid (floB (true, fat) = true) := by unfold Hid floB; simp [h1, h2]
    go_enter Tryz.func52, Tryz.ntmps52
    go_wp2
    go_ret
    exact ⟨by rw [HR.out]; first | rfl | (simp; omega), HB0.out⟩
   ·have HR : Hid (floB (true, fat) = false) := by unfold Hid floB; simp [h2]
    go_enter Tryz.func52, Tryz.ntmps52
    go_wp2
    go_ret
    exact ⟨by rw [HR.out]; first | rfl | (simp; omega), HB0.out⟩
  ·have HR : Hid (floB (true, fat) = false) := by unfold Hid floB; simp [h1]
   go_enter Tryz.func52, Tryz.ntmps52
   go_wp2
   go_ret
   exact ⟨by rw [HR.out]; first | rfl | (simp; omega), HB0.out⟩
set_option maxHeartbeats 4000000 in
theorem many13 (ps : Option Addr) (ns cs : Nat) (pc : Option Addr) (nc cc : Nat) (k : Kd) (g : Int) (p1 : Option Addr) (n1 c1 : Nat) (p2 : Option Addr) (n2 c2 : Nat) (p3 : Option Addr) (n3 c3 : Nat) (p4 : Option Addr) (n4 c4 : Nat) (r : Rw) (w : World) (hg : k.2.2 = g) (hK : KM w ps ns cs pc nc cc k) (hR : RM w p1 n1 c1 p2 n2 c2 p3 n3 c3 p4 n4 c4 r) : Calls Tryz.prog 53 #[.agg #[.slice ps ns cs, .slice pc nc cc, .int .i64 g], .agg #[.slice p1 n1 c1, .slice p2 n2 c2, .slice p3 n3 c3, .slice p4 n4 c4]] w fun e w' => e = .returned (.bool (lensB k r)) ∧ Below w.heap.size w w' := by
 have HKS := hide hK.s.1
 have HKC := hide hK.c.1
 have HL1 := hide (LS.len hR.s)
 have HL2 := hide (LS.len hR.t)
 have HL3 := hide (LS.len hR.a)
 have HL4 := hide (LS.len hR.g)
 clear hK hR
 have HB0 := hide (bel2 w (.cells #[.slice ps ns cs, .slice pc nc cc, .int .i64 g] 25) (.cells #[.slice p1 n1 c1, .slice p2 n2 c2, .slice p3 n3 c3, .slice p4 n4 c4] 31))
 have a0 := cell_old (w := w.alloc (.cells #[.slice ps ns cs, .slice pc nc cc, .int .i64 g] 25)) (.cells #[.slice p1 n1 c1, .slice p2 n2 c2, .slice p3 n3 c3, .slice p4 n4 c4] 31) (cell_new w #[.slice ps ns cs, .slice pc nc cc, .int .i64 g] 25 _ rfl 0 _ rfl)
 have a1 := cell_old (w := w.alloc (.cells #[.slice ps ns cs, .slice pc nc cc, .int .i64 g] 25)) (.cells #[.slice p1 n1 c1, .slice p2 n2 c2, .slice p3 n3 c3, .slice p4 n4 c4] 31) (cell_new w #[.slice ps ns cs, .slice pc nc cc, .int .i64 g] 25 _ rfl 1 _ rfl)
 have a2 := cell_old (w := w.alloc (.cells #[.slice ps ns cs, .slice pc nc cc, .int .i64 g] 25)) (.cells #[.slice p1 n1 c1, .slice p2 n2 c2, .slice p3 n3 c3, .slice p4 n4 c4] 31) (cell_new w #[.slice ps ns cs, .slice pc nc cc, .int .i64 g] 25 _ rfl 2 _ rfl)
 have b0 := cell_new (w.alloc (.cells #[.slice ps ns cs, .slice pc nc cc, .int .i64 g] 25)) #[.slice p1 n1 c1, .slice p2 n2 c2, .slice p3 n3 c3, .slice p4 n4 c4] 31 (w.heap.size + 1) (by simp) 0 _ rfl
 have b1 := cell_new (w.alloc (.cells #[.slice ps ns cs, .slice pc nc cc, .int .i64 g] 25)) #[.slice p1 n1 c1, .slice p2 n2 c2, .slice p3 n3 c3, .slice p4 n4 c4] 31 (w.heap.size + 1) (by simp) 1 _ rfl
 have b2 := cell_new (w.alloc (.cells #[.slice ps ns cs, .slice pc nc cc, .int .i64 g] 25)) #[.slice p1 n1 c1, .slice p2 n2 c2, .slice p3 n3 c3, .slice p4 n4 c4] 31 (w.heap.size + 1) (by simp) 2 _ rfl
 have b3 := cell_new (w.alloc (.cells #[.slice ps ns cs, .slice pc nc cc, .int .i64 g] 25)) #[.slice p1 n1 c1, .slice p2 n2 c2, .slice p3 n3 c3, .slice p4 n4 c4] 31 (w.heap.size + 1) (by simp) 3 _ rfl
 by_cases d1 : n1 = ns
 ·subst d1
  by_cases d2 : n2 = nc
  ·subst d2
   by_cases d3 : n3 = n2
   ·subst d3
    by_cases d4 : (n4 : Int) = g
    ·subst d4
     have HR : Hid (lensB k r = true) := lensB_iff.2 ⟨by rw [HL1.out, HKS.out], by rw [HL2.out, HKC.out], by rw [HL3.out, HKC.out], by rw [HL4.out, hg]⟩
     go_enter Tryz.func53, Tryz.ntmps53
     go_wp2
     go_ret
     exact ⟨by rw [HR.out]; first | rfl | (simp; omega), HB0.out⟩
    ·have HR : Hid (lensB k r = false) := by
      unfold Hid
      rw [Bool.eq_false_iff]
      intro q
      have := lensB_iff.1 q
      rw [HL1.out, HL2.out, HL3.out, HL4.out, HKS.out, HKC.out, hg] at this
      omega
     have hy : ((n4 : Int) == g) = false := by simpa using (show ¬ (n4 : Int) = g by omega)
     go_enter Tryz.func53, Tryz.ntmps53
     go_wp2
     go_ret
     exact ⟨by rw [HR.out]; first | rfl | (simp; omega), HB0.out⟩
   ·have HR : Hid (lensB k r = false) := by
     unfold Hid
     rw [Bool.eq_false_iff]
     intro q
     have := lensB_iff.1 q
     rw [HL1.out, HL2.out, HL3.out, HL4.out, HKS.out, HKC.out, hg] at this
     omega
    have hy : ((n3 : Int) == (n2 : Int)) = false := by simpa using (show ¬ (n3 : Int) = (n2 : Int) by omega)
    go_enter Tryz.func53, Tryz.ntmps53
    go_wp2
    go_ret
    exact ⟨by rw [HR.out]; first | rfl | (simp; omega), HB0.out⟩
  ·have HR : Hid (lensB k r = false) := by
    unfold Hid
    rw [Bool.eq_false_iff]
    intro q
    have := lensB_iff.1 q
    rw [HL1.out, HL2.out, HL3.out, HL4.out, HKS.out, HKC.out, hg] at this
    omega
   have hy : ((n2 : Int) == (nc : Int)) = false := by simpa using (show ¬ (n2 : Int) = (nc : Int) by omega)
   go_enter Tryz.func53, Tryz.ntmps53
   go_wp2
   go_ret
   exact ⟨by rw [HR.out]; first | rfl | (simp; omega), HB0.out⟩
 ·have HR : Hid (lensB k r = false) := by
   unfold Hid
   rw [Bool.eq_false_iff]
   intro q
   have := lensB_iff.1 q
   rw [HL1.out, HL2.out, HL3.out, HL4.out, HKS.out, HKC.out, hg] at this
   omega
  have hy : ((n1 : Int) == (ns : Int)) = false := by simpa using (show ¬ (n1 : Int) = (ns : Int) by omega)
  go_enter Tryz.func53, Tryz.ntmps53
  go_wp2
  go_ret
  exact ⟨by rw [HR.out]; first | rfl | (simp; omega), HB0.out⟩
set_option maxHeartbeats 2000000 in
theorem set13 (x : Bool) (a : Option Addr) (n cap : Nat) (s : List En) (w : World) (hA : NSS w a n s) : Calls Tryz.prog 54 #[.bool x, .slice a n cap] w fun e w' => e = .returned (.bool (setB x s)) ∧ Below w.heap.size w w' := by
 have HA := hide hA
 clear hA
 rcases x with _ | _
 ·rcases hs : mayS s with _ | _
  ·have HR : Hid (setB false s = false) := by unfold Hid setB; rw [if_neg (by decide)]; exact hs
   have HC : Hid (chkS s = 1) := by unfold Hid chkS; rw [hs]; rfl
   clear hs
   go_enter Tryz.func54, Tryz.ntmps54
   go_wp2_with (go_at_call 126; refine (Check_any a n cap s _ HA.out).mono ?_; rintro e w1 ⟨rfl, hb⟩; rw [HC.out]; have HB0 := hide hb; clear hb)
   go_ret
   exact ⟨by rw [HR.out]; first | rfl | (simp; omega), HB0.out⟩
  ·have HR : Hid (setB false s = true) := by unfold Hid setB; rw [if_neg (by decide)]; exact hs
   have HC : Hid (chkS s = 0) := by unfold Hid chkS; rw [hs]; rfl
   clear hs
   go_enter Tryz.func54, Tryz.ntmps54
   go_wp2_with (go_at_call 126; refine (Check_any a n cap s _ HA.out).mono ?_; rintro e w1 ⟨rfl, hb⟩; rw [HC.out]; have HB0 := hide hb; clear hb)
   go_ret
   exact ⟨by rw [HR.out]; first | rfl | (simp; omega), HB0.out⟩
 ·rcases hs : mayS9 s with _ | _
  ·have HR : Hid (setB true s = false) := by unfold Hid setB; rw [if_pos rfl]; exact hs
   have HC : Hid (chk9 s = 1) := by unfold Hid chk9; rw [hs]; rfl
   clear hs
   go_enter Tryz.func54, Tryz.ntmps54
   go_wp2_with (go_at_call 125; refine (chk9_any a n cap s _ HA.out).mono ?_; rintro e w1 ⟨rfl, hb⟩; rw [HC.out]; have HB0 := hide hb; clear hb)
   go_ret
   exact ⟨by rw [HR.out]; first | rfl | (simp; omega), HB0.out⟩
  ·have HR : Hid (setB true s = true) := by unfold Hid setB; rw [if_pos rfl]; exact hs
   have HC : Hid (chk9 s = 0) := by unfold Hid chk9; rw [hs]; rfl
   clear hs
   go_enter Tryz.func54, Tryz.ntmps54
   go_wp2_with (go_at_call 125; refine (chk9_any a n cap s _ HA.out).mono ?_; rintro e w1 ⟨rfl, hb⟩; rw [HC.out]; have HB0 := hide hb; clear hb)
   go_ret
   exact ⟨by rw [HR.out]; first | rfl | (simp; omega), HB0.out⟩
set_option maxHeartbeats 2000000 in
theorem count13 (is : Bool) (fat : Int) (pt : Option Addr) (nt ct : Nat) (t : List Ce) (pa : Option Addr) (na ca : Nat) (a : List Ac) (w : World) (hT : TS w pt nt t) (hA : AC w pa na a) : Calls Tryz.prog 55 #[.agg #[.bool is, .int .i64 fat], .slice pt nt ct, .slice pa na ca] w fun e w' => e = .returned (.bool (cntB (is, fat) t a)) ∧ Below w.heap.size w w' := by
 have HT := hide hT
 have HA := hide hA
 have hnt := kept_cel.len hT
 have hna := kept_acc.len hA
 clear hT hA
 have HB0 := hide (bel1 w (.cells #[.bool is, .int .i64 fat] 84))
 have z0 := cell_new w #[.bool is, .int .i64 fat] 84 _ rfl 0 _ rfl
 have z1 := cell_new w #[.bool is, .int .i64 fat] 84 _ rfl 1 _ rfl
 have nT : mayT [] = true := by decide
 have nA : mayA [] = true := by decide
 rcases is with _ | _
 ·by_cases e : na = 0
  ·obtain rfl : a = [] := List.eq_nil_of_length_eq_zero (by omega)
   subst e
   rcases hm : mayT t with _ | _
   ·have HR : Hid (cntB (false, fat) t [] = false) := by unfold Hid cntB; rw [hm]; rfl
    have HC : Hid (chkT t = 1) := by unfold Hid chkT; rw [hm]; rfl
    clear hm hnt hna nT nA
    go_enter Tryz.func55, Tryz.ntmps55
    go_wp2_with (go_at_call 128; refine (Check10_any pt nt ct t _ (HT.out.below HB0.out)).mono ?_; rintro e w1 ⟨rfl, hb⟩; rw [HC.out]; replace HB0 := hide (bel_next HB0.out hb); clear hb)
    go_ret
    exact ⟨by rw [HR.out]; first | rfl | (simp; omega), HB0.out⟩
   ·have HR : Hid (cntB (false, fat) t [] = true) := by unfold Hid cntB; rw [hm, nA, if_neg (by simp)]; rfl
    have HC : Hid (chkT t = 0) := by unfold Hid chkT; rw [hm]; rfl
    clear hm hnt hna nT nA
    go_enter Tryz.func55, Tryz.ntmps55
    go_wp2_with (go_at_call 128; refine (Check10_any pt nt ct t _ (HT.out.below HB0.out)).mono ?_; rintro e w1 ⟨rfl, hb⟩; rw [HC.out]; replace HB0 := hide (bel_next HB0.out hb); clear hb)
    go_ret
    exact ⟨by rw [HR.out]; first | rfl | (simp; omega), HB0.out⟩
  ·have HR : Hid (cntB (false, fat) t a = false) := by
    unfold Hid cntB
    rw [if_neg (by simp), decide_eq_false (fun q => e (by rw [← hna, q]; rfl)), Bool.and_false]
   have e2 : ((na : Int) == 0) = false := by simpa using (show ¬ (na : Int) = 0 by omega)
   clear hnt hna nT nA e
   go_enter Tryz.func55, Tryz.ntmps55
   go_wp2
   go_ret
   exact ⟨by rw [HR.out]; first | rfl | (simp; omega), HB0.out⟩
 ·by_cases e : nt = 0
  ·obtain rfl : t = [] := List.eq_nil_of_length_eq_zero (by omega)
   subst e
   rcases hm : mayA a with _ | _
   ·have HR : Hid (cntB (true, fat) [] a = false) := by unfold Hid cntB; rw [hm, Bool.and_false]; rfl
    have HC : Hid (chk11 a = 1) := by unfold Hid chk11; rw [hm]; rfl
    clear hm hnt hna nT nA
    go_enter Tryz.func55, Tryz.ntmps55
    go_wp2_with (go_at_call 127; refine (Check11_any pa na ca a _ (HA.out.below HB0.out)).mono ?_; rintro e w1 ⟨rfl, hb⟩; rw [HC.out]; replace HB0 := hide (bel_next HB0.out hb); clear hb)
    go_ret
    exact ⟨by rw [HR.out]; first | rfl | (simp; omega), HB0.out⟩
   ·have HR : Hid (cntB (true, fat) [] a = true) := by unfold Hid cntB; rw [hm, nT, if_pos rfl]; rfl
    have HC : Hid (chk11 a = 0) := by unfold Hid chk11; rw [hm]; rfl
    clear hm hnt hna nT nA
    go_enter Tryz.func55, Tryz.ntmps55
    go_wp2_with (go_at_call 127; refine (Check11_any pa na ca a _ (HA.out.below HB0.out)).mono ?_; rintro e w1 ⟨rfl, hb⟩; rw [HC.out]; replace HB0 := hide (bel_next HB0.out hb); clear hb)
    go_ret
    exact ⟨by rw [HR.out]; first | rfl | (simp; omega), HB0.out⟩
  ·have HR : Hid (cntB (true, fat) t a = false) := by
    unfold Hid cntB
    rw [if_pos rfl, decide_eq_false (fun q => e (by rw [← hnt, q]; rfl)), Bool.and_false]
   have e2 : ((nt : Int) == 0) = false := by simpa using (show ¬ (nt : Int) = 0 by omega)
   clear hnt hna nT nA e
   go_enter Tryz.func55, Tryz.ntmps55
   go_wp2
   go_ret
   exact ⟨by rw [HR.out]; first | rfl | (simp; omega), HB0.out⟩
set_option maxHeartbeats 4000000 in
theorem CheckKinds13 (ps : Option Addr) (ns cs : Nat) (pc : Option Addr) (nc cc : Nat) (k : Kd) (g : Int) (w : World) (hg : k.2.2 = g) (hK : KM w ps ns cs pc nc cc k) : Calls Tryz.prog 15 #[.agg #[.slice ps ns cs, .slice pc nc cc, .int .i64 g]] w fun e w' => e = .returned (.int .i64 (chkK k)) ∧ Below w.heap.size w w' := by
 have HB0 := hide (bel1 w (.cells #[.slice ps ns cs, .slice pc nc cc, .int .i64 g] 25))
 have HV := hide (hK.below HB0.out)
 have z0 := cell_new w #[.slice ps ns cs, .slice pc nc cc, .int .i64 g] 25 _ rfl 0 _ rfl
 have z1 := cell_new w #[.slice ps ns cs, .slice pc nc cc, .int .i64 g] 25 _ rfl 1 _ rfl
 have z2 := cell_new w #[.slice ps ns cs, .slice pc nc cc, .int .i64 g] 25 _ rfl 2 _ rfl
 have hls := hK.s.1
 have hlc := hK.c.1
 have HLC := hide hlc
 clear hK
 by_cases g1 : (ns : Int) ≤ 6
 ·by_cases g2 : (nc : Int) ≤ 4
  ·by_cases g3 : 0 ≤ g
   ·by_cases g4 : g ≤ 3
    ·have HY : Hid (k.2.1.all floB = true → chkK k = 0) := by
      intro q
      unfold chkK
      rw [kinds_yes q, if_pos (decide_eq_true (by omega))]
     clear hls hlc hg
     go_enter Tryz.func15, Tryz.ntmps15
     go_wp2
     generalize w.alloc (.cells #[.slice ps ns cs, .slice pc nc cc, .int .i64 g] 25) = u at *
     clear z0 z1 z2
     go_loopw [28] (fun v wr => ∃ i : Nat, i ≤ nc ∧ v = .int .i64 i ∧ Hid ((k.2.1.take i).all floB = true) ∧ Hid (Below u.heap.size u wr)) (fun v _ => nc - (intOf v).toNat)
     case atStart => exact ⟨0, by omega, rfl, (show _ = _ by simp), Below.refl _ _⟩
     case round =>
      obtain ⟨k0, hk, rfl, HF, HB⟩ := hrel
      by_cases hlt : k0 < nc
      ·obtain ⟨b, off, rfl⟩ := rs_addr HV.out.c (by omega)
       obtain ⟨is, fat, hx, c0, c1⟩ := floor_at ((HV.out.below HB.out).c) k0 hlt
       have hk0 : (0 : Int) ≤ (k0 : Int) := by omega
       have hk1 : (k0 : Int) < (nc : Int) := by omega
       rcases hf : floB (is, fat) with _ | _
       ·have HR : Hid (chkK k = 1) := by unfold Hid chkK; rw [kinds_no hx hf]; rfl
        have HF1 := hide hf
        clear hf hx
        go_wp2_with (go_at_call 52; refine (floor13 is fat _).mono ?_; rintro e w1 ⟨rfl, hb⟩; rw [HF1.out]; replace HB := hide (bel_next (bel_next HB.out (bel1 _ _)) hb); clear hb)
        go_ret
        exact ⟨by rw [HR.out]; rfl, bel_next HB0.out HB.out⟩
       ·have HF2 : Hid ((k.2.1.take (k0 + 1)).all floB = true) := by
         unfold Hid
         rw [takeG_snoc hx, List.all_append, HF.out]
         simp [hf]
        have HF1 := hide hf
        clear hf hx
        go_wp2_with (go_at_call 52; refine (floor13 is fat _).mono ?_; rintro e w1 ⟨rfl, hb⟩; rw [HF1.out]; replace HB := hide (bel_next (bel_next HB.out (bel1 _ _)) hb); clear hb)
        go_roundw
        case rel => exact ⟨k0 + 1, by omega, by go_num, HF2, HB⟩
        case measure => simp [intOf]; omega
      ·obtain rfl : k0 = nc := by omega
       have HR : Hid (chkK k = 0) := HY.out (by have := HF.out; rwa [← HLC.out, List.take_length] at this)
       clear HF
       go_wp2
       go_ret
       exact ⟨by rw [HR.out]; rfl, bel_next HB0.out HB.out⟩
    ·have HR : Hid (chkK k = 1) := by
      unfold Hid chkK kindsB
      rw [decide_eq_false (by omega), Bool.and_false]
      rfl
     clear hls hlc hg
     go_enter Tryz.func15, Tryz.ntmps15
     go_wp2
     go_ret
     exact ⟨by rw [HR.out]; first | rfl | (simp; omega), HB0.out⟩
   ·have HR : Hid (chkK k = 1) := by
     unfold Hid chkK kindsB
     rw [decide_eq_false (by omega), Bool.and_false]
     rfl
    clear hls hlc hg
    go_enter Tryz.func15, Tryz.ntmps15
    go_wp2
    go_ret
    exact ⟨by rw [HR.out]; first | rfl | (simp; omega), HB0.out⟩
  ·have HR : Hid (chkK k = 1) := by
    unfold Hid chkK kindsB
    rw [decide_eq_false (by omega), Bool.and_false]
    rfl
   clear hls hlc hg
   go_enter Tryz.func15, Tryz.ntmps15
   go_wp2
   go_ret
   exact ⟨by rw [HR.out]; first | rfl | (simp; omega), HB0.out⟩
 ·have HR : Hid (chkK k = 1) := by
   unfold Hid chkK kindsB
   rw [decide_eq_false (by omega), Bool.and_false]
   rfl
  clear hls hlc hg
  go_enter Tryz.func15, Tryz.ntmps15
  go_wp2
  go_ret
  exact ⟨by rw [HR.out]; first | rfl | (simp; omega), HB0.out⟩
theorem chkW_no {k : Kd} {w : Rw} (h : ¬ (kindsB k = true ∧ lensB k w = true ∧ (∀ (i : Nat) r s, k.1[i]? = some r → w.1[i]? = some s → setB r s = true) ∧ (∀ (i : Nat) f t a, k.2.1[i]? = some f → w.2.1[i]? = some t → w.2.2.1[i]? = some a → cntB f t a = true) ∧ ∀ g ∈ w.2.2.2, mayR12 g = true)) : chkW k w = 1 := by
 unfold chkW
 rw [mayW_no h]
 rfl
set_option maxRecDepth 4000 in
set_option maxHeartbeats 16000000 in
theorem Check13 (ps : Option Addr) (ns cs : Nat) (pc : Option Addr) (nc cc : Nat) (k : Kd) (g : Int) (p1 : Option Addr) (n1 c1 : Nat) (p2 : Option Addr) (n2 c2 : Nat) (p3 : Option Addr) (n3 c3 : Nat) (p4 : Option Addr) (n4 c4 : Nat) (r : Rw) (w : World) (hg : k.2.2 = g) (hK : KM w ps ns cs pc nc cc k) (hR : RM w p1 n1 c1 p2 n2 c2 p3 n3 c3 p4 n4 c4 r) : Calls Tryz.prog 16 #[.agg #[.slice ps ns cs, .slice pc nc cc, .int .i64 g], .agg #[.slice p1 n1 c1, .slice p2 n2 c2, .slice p3 n3 c3, .slice p4 n4 c4]] w fun e w' => e = .returned (.int .i64 (chkW k r)) ∧ Below w.heap.size w w' := by
 have HK := hide hK
 have HR := hide hR
 have HKS := hide hK.s.1
 have HKC := hide hK.c.1
 have HL1 := hide (LS.len hR.s)
 have HL2 := hide (LS.len hR.t)
 have HL3 := hide (LS.len hR.a)
 have HL4 := hide (LS.len hR.g)
 clear hK hR
 have HB0 := hide (bel2 w (.cells #[.slice ps ns cs, .slice pc nc cc, .int .i64 g] 25) (.cells #[.slice p1 n1 c1, .slice p2 n2 c2, .slice p3 n3 c3, .slice p4 n4 c4] 31))
 have a0 := cell_old (w := w.alloc (.cells #[.slice ps ns cs, .slice pc nc cc, .int .i64 g] 25)) (.cells #[.slice p1 n1 c1, .slice p2 n2 c2, .slice p3 n3 c3, .slice p4 n4 c4] 31) (cell_new w #[.slice ps ns cs, .slice pc nc cc, .int .i64 g] 25 _ rfl 0 _ rfl)
 have a1 := cell_old (w := w.alloc (.cells #[.slice ps ns cs, .slice pc nc cc, .int .i64 g] 25)) (.cells #[.slice p1 n1 c1, .slice p2 n2 c2, .slice p3 n3 c3, .slice p4 n4 c4] 31) (cell_new w #[.slice ps ns cs, .slice pc nc cc, .int .i64 g] 25 _ rfl 1 _ rfl)
 have a2 := cell_old (w := w.alloc (.cells #[.slice ps ns cs, .slice pc nc cc, .int .i64 g] 25)) (.cells #[.slice p1 n1 c1, .slice p2 n2 c2, .slice p3 n3 c3, .slice p4 n4 c4] 31) (cell_new w #[.slice ps ns cs, .slice pc nc cc, .int .i64 g] 25 _ rfl 2 _ rfl)
 have b0 := cell_new (w.alloc (.cells #[.slice ps ns cs, .slice pc nc cc, .int .i64 g] 25)) #[.slice p1 n1 c1, .slice p2 n2 c2, .slice p3 n3 c3, .slice p4 n4 c4] 31 (w.heap.size + 1) (by simp) 0 _ rfl
 have b1 := cell_new (w.alloc (.cells #[.slice ps ns cs, .slice pc nc cc, .int .i64 g] 25)) #[.slice p1 n1 c1, .slice p2 n2 c2, .slice p3 n3 c3, .slice p4 n4 c4] 31 (w.heap.size + 1) (by simp) 1 _ rfl
 have b2 := cell_new (w.alloc (.cells #[.slice ps ns cs, .slice pc nc cc, .int .i64 g] 25)) #[.slice p1 n1 c1, .slice p2 n2 c2, .slice p3 n3 c3, .slice p4 n4 c4] 31 (w.heap.size + 1) (by simp) 2 _ rfl
 have b3 := cell_new (w.alloc (.cells #[.slice ps ns cs, .slice pc nc cc, .int .i64 g] 25)) #[.slice p1 n1 c1, .slice p2 n2 c2, .slice p3 n3 c3, .slice p4 n4 c4] 31 (w.heap.size + 1) (by simp) 3 _ rfl
 rcases hkb : kindsB k with _ | _
 ·have HKB : Hid (chkK k = 1) := by unfold Hid chkK; rw [hkb]; rfl
  have HNO : Hid (chkW k r = 1) := chkW_no (fun h => by rw [hkb] at h; cases h.1)
  clear hkb
  go_enter Tryz.func16, Tryz.ntmps16
  go_wp2_with (go_at_call 15; refine (CheckKinds13 _ _ _ _ _ _ k _ _ hg (HK.out.below HB0.out)).mono ?_; rintro e w1 ⟨rfl, hb⟩; rw [HKB.out]; replace HB0 := hide (bel_next HB0.out hb); (try replace a0 := bcell hb a0); (try replace a1 := bcell hb a1); (try replace a2 := bcell hb a2); (try replace b0 := bcell hb b0); (try replace b1 := bcell hb b1); (try replace b2 := bcell hb b2); (try replace b3 := bcell hb b3); clear hb; refine Stop.at ?_)
  unfold Stop
  go_wp2
  go_ret
  exact ⟨by rw [HNO.out]; rfl, HB0.out⟩
 ·have HKB : Hid (chkK k = 0) := by unfold Hid chkK; rw [hkb]; rfl
  have HKT := hide hkb
  clear hkb
  rcases hln : lensB k r with _ | _
  ·have HLN := hide hln
   have HNO : Hid (chkW k r = 1) := chkW_no (fun h => by rw [hln] at h; cases h.2.1)
   clear hln
   go_enter Tryz.func16, Tryz.ntmps16
   go_wp2_with (go_at_call 15; refine (CheckKinds13 _ _ _ _ _ _ k _ _ hg (HK.out.below HB0.out)).mono ?_; rintro e w1 ⟨rfl, hb⟩; rw [HKB.out]; replace HB0 := hide (bel_next HB0.out hb); (try replace a0 := bcell hb a0); (try replace a1 := bcell hb a1); (try replace a2 := bcell hb a2); (try replace b0 := bcell hb b0); (try replace b1 := bcell hb b1); (try replace b2 := bcell hb b2); (try replace b3 := bcell hb b3); clear hb; refine Stop.at ?_)
   unfold Stop
   go_wp2_with (go_at_call 53; refine (many13 _ _ _ _ _ _ k _ _ _ _ _ _ _ _ _ _ _ _ _ r _ hg (HK.out.below HB0.out) (HR.out.below HB0.out)).mono ?_; rintro e w2 ⟨rfl, hb⟩; rw [HLN.out]; replace HB0 := hide (bel_next HB0.out hb); (try replace a0 := bcell hb a0); (try replace a1 := bcell hb a1); (try replace a2 := bcell hb a2); (try replace b0 := bcell hb b0); (try replace b1 := bcell hb b1); (try replace b2 := bcell hb b2); (try replace b3 := bcell hb b3); clear hb; refine Stop.at ?_)
   unfold Stop
   go_wp2
   go_ret
   exact ⟨by rw [HNO.out]; rfl, HB0.out⟩
  ·have HLN := hide hln
   have HLEN := hide hln
   have hl := lensB_iff.1 hln
   rw [HL1.out, HL2.out, HL3.out, HL4.out, HKS.out, HKC.out, hg] at hl
   obtain ⟨rfl, d2, d3, d4⟩ := hl
   subst d2
   subst d3
   subst d4
   clear hln
   go_enter Tryz.func16, Tryz.ntmps16
   go_wp2_with (go_at_call 15; refine (CheckKinds13 _ _ _ _ _ _ k _ _ hg (HK.out.below HB0.out)).mono ?_; rintro e w1 ⟨rfl, hb⟩; rw [HKB.out]; replace HB0 := hide (bel_next HB0.out hb); (try replace a0 := bcell hb a0); (try replace a1 := bcell hb a1); (try replace a2 := bcell hb a2); (try replace b0 := bcell hb b0); (try replace b1 := bcell hb b1); (try replace b2 := bcell hb b2); (try replace b3 := bcell hb b3); clear hb; refine Stop.at ?_)
   unfold Stop
   go_wp2_with (go_at_call 53; refine (many13 _ _ _ _ _ _ k _ _ _ _ _ _ _ _ _ _ _ _ _ r _ hg (HK.out.below HB0.out) (HR.out.below HB0.out)).mono ?_; rintro e w2 ⟨rfl, hb⟩; rw [HLN.out]; replace HB0 := hide (bel_next HB0.out hb); (try replace a0 := bcell hb a0); (try replace a1 := bcell hb a1); (try replace a2 := bcell hb a2); (try replace b0 := bcell hb b0); (try replace b1 := bcell hb b1); (try replace b2 := bcell hb b2); (try replace b3 := bcell hb b3); clear hb; refine Stop.at ?_)
   unfold Stop
   have A0 := hide a0
   have A1 := hide a1
   have A2 := hide a2
   have B0 := hide b0
   have B1 := hide b1
   have B2 := hide b2
   have B3 := hide b3
   obtain ⟨wC, hC⟩ : ∃ x, w2 = x := ⟨_, rfl⟩
   have HBW : Hid (Below w2.heap.size w2 wC) := by unfold Hid; rw [← hC]; exact Below.refl _ _
   rw [hC] at a0 a1 a2 b0 b1 b2 b3 ⊢
   clear hC
   go_wp2
   go_loopw [23] (fun v wr => ∃ i : Nat, i ≤ n1 ∧ v = .int .i64 i ∧ Hid (∀ (j : Nat) x s, j < i → k.1[j]? = some x → r.1[j]? = some s → setB x s = true) ∧ Hid (Below wC.heap.size wC wr)) (fun v _ => n1 - (intOf v).toNat)
   case atStart => exact ⟨0, by omega, rfl, (fun j x s hj => by omega), Below.refl _ _⟩
   case round =>
    clear a0 a1 a2 b0 b1 b2 b3
    obtain ⟨k0, hk, rfl, HF, HB⟩ := hrel
    have a0 := bcell (bel_next HBW.out HB.out) A0.out
    have a1 := bcell (bel_next HBW.out HB.out) A1.out
    have a2 := bcell (bel_next HBW.out HB.out) A2.out
    have b0 := bcell (bel_next HBW.out HB.out) B0.out
    have b1 := bcell (bel_next HBW.out HB.out) B1.out
    have b2 := bcell (bel_next HBW.out HB.out) B2.out
    have b3 := bcell (bel_next HBW.out HB.out) B3.out
    by_cases hlt : k0 < n1
    ·obtain ⟨bc, oc, rfl⟩ := rs_addr HK.out.s (by omega)
     obtain ⟨ba, oa, rfl⟩ := LS.addr HR.out.s (by omega)
     obtain ⟨x, hf, y0⟩ := bool_at ((HK.out.below (bel_next HB0.out (bel_next HBW.out HB.out))).s) k0 hlt
     obtain ⟨px, nx, cx, lx, hx, x0, hX, _⟩ := LS.at ((HR.out.below (bel_next HB0.out (bel_next HBW.out HB.out))).s) k0 hlt
     have HX1 := hide hX
     have hk0 : (0 : Int) ≤ (k0 : Int) := by omega
     have hk1 : (k0 : Int) < (n1 : Int) := by omega
     have hmk : n1 ≤ 9223372036854775807 := by have h := LS.max HR.out.s; unfold maxLen at h; omega
     rcases hs : setB x lx with _ | _
     ·have HM := hide hs
      have HNO : Hid (chkW k r = 1) := chkW_no (fun h => by have q := h.2.2.1 k0 _ _ hf hx; rw [hs] at q; cases q)
      clear hf hx hX hs
      go_wp2_with (go_at_call 54; refine (set13 x px nx cx lx _ HX1.out).mono ?_; rintro e wn ⟨rfl, hb⟩; rw [HM.out]; replace HB := hide (bel_next HB.out hb); (try replace a0 := bcell hb a0); (try replace a1 := bcell hb a1); (try replace a2 := bcell hb a2); (try replace b0 := bcell hb b0); (try replace b1 := bcell hb b1); (try replace b2 := bcell hb b2); (try replace b3 := bcell hb b3); (try replace x0 := bcell hb x0); (try replace y0 := bcell hb y0); (try replace y1 := bcell hb y1); (try replace v0 := bcell hb v0); clear hb)
      go_ret
      exact ⟨by rw [HNO.out]; rfl, bel_next HB0.out (bel_next HBW.out HB.out)⟩
     ·have HM := hide hs
      have HF2 : Hid (∀ (j : Nat) x s, j < k0 + 1 → k.1[j]? = some x → r.1[j]? = some s → setB x s = true) := by
       intro j y s hj h1 h2
       by_cases e : j = k0
       ·subst e
        rw [hf] at h1
        rw [hx] at h2
        cases h1
        cases h2
        exact hs
       ·exact HF.out j y s (by omega) h1 h2
      clear hf hx hX hs
      go_wp2_with (go_at_call 54; refine (set13 x px nx cx lx _ HX1.out).mono ?_; rintro e wn ⟨rfl, hb⟩; rw [HM.out]; replace HB := hide (bel_next HB.out hb); (try replace a0 := bcell hb a0); (try replace a1 := bcell hb a1); (try replace a2 := bcell hb a2); (try replace b0 := bcell hb b0); (try replace b1 := bcell hb b1); (try replace b2 := bcell hb b2); (try replace b3 := bcell hb b3); (try replace x0 := bcell hb x0); (try replace y0 := bcell hb y0); (try replace y1 := bcell hb y1); (try replace v0 := bcell hb v0); clear hb)
      go_roundw
      case rel => exact ⟨k0 + 1, by omega, by go_num, HF2, HB⟩
      case measure => simp [intOf]; omega
    ·obtain rfl : k0 = n1 := by omega
     have HF1 : Hid (∀ (i : Nat) x s, k.1[i]? = some x → r.1[i]? = some s → setB x s = true) := by
      intro i x s h1 h2
      exact HF.out i x s (by have := (List.getElem?_eq_some_iff.1 h1).1; rw [HKS.out] at this; exact this) h1 h2
     clear HF
     replace HBW := hide (bel_next HBW.out HB.out)
     clear HB
     generalize hww : wr = wC at *
     clear hww
     go_wp2
     go_loopw [40] (fun v wr => ∃ i : Nat, i ≤ n3 ∧ v = .int .i64 i ∧ Hid (∀ (j : Nat) f t a, j < i → k.2.1[j]? = some f → r.2.1[j]? = some t → r.2.2.1[j]? = some a → cntB f t a = true) ∧ Hid (Below wC.heap.size wC wr)) (fun v _ => n3 - (intOf v).toNat)
     case atStart => exact ⟨0, by omega, rfl, (fun j f t a hj => by omega), Below.refl _ _⟩
     case round =>
      clear a0 a1 a2 b0 b1 b2 b3
      obtain ⟨k0, hk, rfl, HF, HB⟩ := hrel
      have a0 := bcell (bel_next HBW.out HB.out) A0.out
      have a1 := bcell (bel_next HBW.out HB.out) A1.out
      have a2 := bcell (bel_next HBW.out HB.out) A2.out
      have b0 := bcell (bel_next HBW.out HB.out) B0.out
      have b1 := bcell (bel_next HBW.out HB.out) B1.out
      have b2 := bcell (bel_next HBW.out HB.out) B2.out
      have b3 := bcell (bel_next HBW.out HB.out) B3.out
      by_cases hlt : k0 < n3
      ·obtain ⟨bc, oc, rfl⟩ := rs_addr HK.out.c (by omega)
       obtain ⟨ba, oa, rfl⟩ := LS.addr HR.out.t (by omega)
       obtain ⟨bb, ob, rfl⟩ := LS.addr HR.out.a (by omega)
       obtain ⟨is, fat, hf, y0, y1⟩ := floor_at ((HK.out.below (bel_next HB0.out (bel_next HBW.out HB.out))).c) k0 hlt
       obtain ⟨px, nx, cx, lx, hx, x0, hX, _⟩ := LS.at ((HR.out.below (bel_next HB0.out (bel_next HBW.out HB.out))).t) k0 hlt
       obtain ⟨py, ny, cy, ly, hy, v0, hY, _⟩ := LS.at ((HR.out.below (bel_next HB0.out (bel_next HBW.out HB.out))).a) k0 hlt
       have HX1 := hide hX
       have HX2 := hide hY
       have hk0 : (0 : Int) ≤ (k0 : Int) := by omega
       have hk1 : (k0 : Int) < (n3 : Int) := by omega
       have hmk : n3 ≤ 9223372036854775807 := by have h := LS.max HR.out.t; unfold maxLen at h; omega
       rcases hm : cntB (is, fat) lx ly with _ | _
       ·have HM := hide hm
        have HNO : Hid (chkW k r = 1) := chkW_no (fun h => by have q := h.2.2.2.1 k0 _ _ _ hf hx hy; rw [hm] at q; cases q)
        clear hm hf hx hy hX hY
        go_upto_region 12 with fail
        have HBX := hide (bel1 wr (.cells #[.bool is, .int .i64 fat] 84))
        have W0 := hide (cell_new wr #[.bool is, .int .i64 fat] 84 _ rfl 0 _ rfl)
        have W1 := hide (cell_new wr #[.bool is, .int .i64 fat] 84 _ rfl 1 _ rfl)
        have B1 := hide (bcell HBX.out b1)
        have B2 := hide (bcell HBX.out b2)
        have X0 := hide (bcell HBX.out x0)
        have V0 := hide (bcell HBX.out v0)
        replace HX1 := hide (kept_cel.below HX1.out HBX.out)
        replace HX2 := hide (kept_acc.below HX2.out HBX.out)
        replace HB := hide (bel_next HB.out HBX.out)
        clear a0 a1 a2 b0 b1 b2 b3 x0 v0 y0 y1 HBX
        generalize wr.heap.size = gX at *
        generalize wr.alloc (.cells #[.bool is, .int .i64 fat] 84) = wx at *
        refine wp_region_held_drew (S := fun W => Below wx.heap.size wx W) (by kernel_rfl) ((Below.refl _ wx).drew) (fun hS0 => ?_)
        refine tkL 0 45 hS0 ?h ?_; case h => (intro W hW; have e0 := bcell hW W0.out; have e1 := bcell hW W1.out; have e2 := bcell hW B1.out; have e3 := bcell hW B2.out; have e4 := bcell hW X0.out; have e5 := bcell hW V0.out; clear hW; go_simp; try rfl); simp only [lyF]
        refine tkJ 1 46 hS0 ?_; simp only [lyF]
        refine tkL 2 47 hS0 ?h ?_; case h => (intro W hW; have e0 := bcell hW W0.out; have e1 := bcell hW W1.out; have e2 := bcell hW B1.out; have e3 := bcell hW B2.out; have e4 := bcell hW X0.out; have e5 := bcell hW V0.out; clear hW; go_simp; try rfl); simp only [lyF]
        refine tkJ 3 48 hS0 ?_; simp only [lyF]
        refine tkJ 4 49 hS0 ?_; simp only [lyF]
        refine tkL 5 50 hS0 ?h ?_; case h => (intro W hW; have e0 := bcell hW W0.out; have e1 := bcell hW W1.out; have e2 := bcell hW B1.out; have e3 := bcell hW B2.out; have e4 := bcell hW X0.out; have e5 := bcell hW V0.out; clear hW; go_simp; try rfl); simp only [lyF]
        refine tkJ 6 51 hS0 ?_; simp only [lyF]
        refine tkL 7 52 hS0 ?h ?_; case h => (intro W hW; have e0 := bcell hW W0.out; have e1 := bcell hW W1.out; have e2 := bcell hW B1.out; have e3 := bcell hW B2.out; have e4 := bcell hW X0.out; have e5 := bcell hW V0.out; clear hW; go_simp; try rfl); simp only [lyF]
        refine tkJ 8 53 hS0 ?_; simp only [lyF]
        refine tkJ 9 54 hS0 ?_; simp only [lyF]
        refine tkL 10 55 hS0 ?h ?_; case h => (intro W hW; have e0 := bcell hW W0.out; have e1 := bcell hW W1.out; have e2 := bcell hW B1.out; have e3 := bcell hW B2.out; have e4 := bcell hW X0.out; have e5 := bcell hW V0.out; clear hW; go_simp; try rfl); simp only [lyF]
        refine wpAnyH_ready (rs := [11]) (by kernel_rfl) (by simp) ?_
        refine AllReadyH.cons rfl (fun K hK => ?_) AllReadyH.nil
        go_simp
        refine (count13 is fat px nx cx lx py ny cy ly _ (kept_cel.below HX1.out hS0) (kept_acc.below HX2.out hS0)).mono ?_
        rintro e wn ⟨rfl, hb⟩
        rw [HM.out]
        refine hK.out _ _ ?hs12 (fun hS1 => ?_)
        case hs12 => exact bel_next hS0 hb
        clear hK K hb
        try simp only [lyF]
        refine tkJ 12 57 hS1 ?_; simp only [lyF]
        refine wpAnyH_done (by kernel_rfl) ?_ _
        replace HB := hide (bel_next HB.out hS1)
        clear hS0
        go_wp2
        go_ret
        exact ⟨by rw [HNO.out]; rfl, bel_next HB0.out (bel_next HBW.out HB.out)⟩
       ·have HM := hide hm
        have HF2 : Hid (∀ (i : Nat) f t a, i < k0 + 1 → k.2.1[i]? = some f → r.2.1[i]? = some t → r.2.2.1[i]? = some a → cntB f t a = true) := by
         intro i f t a hi h1 h2 h3
         by_cases e : i = k0
         ·subst e
          rw [hf] at h1
          rw [hx] at h2
          rw [hy] at h3
          cases h1
          cases h2
          cases h3
          exact hm
         ·exact HF.out i f t a (by omega) h1 h2 h3
        clear hm hf hx hy hX hY
        go_upto_region 12 with fail
        have HBX := hide (bel1 wr (.cells #[.bool is, .int .i64 fat] 84))
        have W0 := hide (cell_new wr #[.bool is, .int .i64 fat] 84 _ rfl 0 _ rfl)
        have W1 := hide (cell_new wr #[.bool is, .int .i64 fat] 84 _ rfl 1 _ rfl)
        have B1 := hide (bcell HBX.out b1)
        have B2 := hide (bcell HBX.out b2)
        have X0 := hide (bcell HBX.out x0)
        have V0 := hide (bcell HBX.out v0)
        replace HX1 := hide (kept_cel.below HX1.out HBX.out)
        replace HX2 := hide (kept_acc.below HX2.out HBX.out)
        replace HB := hide (bel_next HB.out HBX.out)
        clear a0 a1 a2 b0 b1 b2 b3 x0 v0 y0 y1 HBX
        generalize wr.heap.size = gX at *
        generalize wr.alloc (.cells #[.bool is, .int .i64 fat] 84) = wx at *
        refine wp_region_held_drew (S := fun W => Below wx.heap.size wx W) (by kernel_rfl) ((Below.refl _ wx).drew) (fun hS0 => ?_)
        refine tkL 0 45 hS0 ?h ?_; case h => (intro W hW; have e0 := bcell hW W0.out; have e1 := bcell hW W1.out; have e2 := bcell hW B1.out; have e3 := bcell hW B2.out; have e4 := bcell hW X0.out; have e5 := bcell hW V0.out; clear hW; go_simp; try rfl); simp only [lyF]
        refine tkJ 1 46 hS0 ?_; simp only [lyF]
        refine tkL 2 47 hS0 ?h ?_; case h => (intro W hW; have e0 := bcell hW W0.out; have e1 := bcell hW W1.out; have e2 := bcell hW B1.out; have e3 := bcell hW B2.out; have e4 := bcell hW X0.out; have e5 := bcell hW V0.out; clear hW; go_simp; try rfl); simp only [lyF]
        refine tkJ 3 48 hS0 ?_; simp only [lyF]
        refine tkJ 4 49 hS0 ?_; simp only [lyF]
        refine tkL 5 50 hS0 ?h ?_; case h => (intro W hW; have e0 := bcell hW W0.out; have e1 := bcell hW W1.out; have e2 := bcell hW B1.out; have e3 := bcell hW B2.out; have e4 := bcell hW X0.out; have e5 := bcell hW V0.out; clear hW; go_simp; try rfl); simp only [lyF]
        refine tkJ 6 51 hS0 ?_; simp only [lyF]
        refine tkL 7 52 hS0 ?h ?_; case h => (intro W hW; have e0 := bcell hW W0.out; have e1 := bcell hW W1.out; have e2 := bcell hW B1.out; have e3 := bcell hW B2.out; have e4 := bcell hW X0.out; have e5 := bcell hW V0.out; clear hW; go_simp; try rfl); simp only [lyF]
        refine tkJ 8 53 hS0 ?_; simp only [lyF]
        refine tkJ 9 54 hS0 ?_; simp only [lyF]
        refine tkL 10 55 hS0 ?h ?_; case h => (intro W hW; have e0 := bcell hW W0.out; have e1 := bcell hW W1.out; have e2 := bcell hW B1.out; have e3 := bcell hW B2.out; have e4 := bcell hW X0.out; have e5 := bcell hW V0.out; clear hW; go_simp; try rfl); simp only [lyF]
        refine wpAnyH_ready (rs := [11]) (by kernel_rfl) (by simp) ?_
        refine AllReadyH.cons rfl (fun K hK => ?_) AllReadyH.nil
        go_simp
        refine (count13 is fat px nx cx lx py ny cy ly _ (kept_cel.below HX1.out hS0) (kept_acc.below HX2.out hS0)).mono ?_
        rintro e wn ⟨rfl, hb⟩
        rw [HM.out]
        refine hK.out _ _ ?hs25 (fun hS1 => ?_)
        case hs25 => exact bel_next hS0 hb
        clear hK K hb
        try simp only [lyF]
        refine tkJ 12 57 hS1 ?_; simp only [lyF]
        refine wpAnyH_done (by kernel_rfl) ?_ _
        replace HB := hide (bel_next HB.out hS1)
        clear hS0
        go_wp2
        go_roundw
        case rel => exact ⟨k0 + 1, by omega, by go_num, HF2, HB⟩
        case measure => simp [intOf]; omega
      ·obtain rfl : k0 = n3 := by omega
       have HFC : Hid (∀ (i : Nat) f t a, k.2.1[i]? = some f → r.2.1[i]? = some t → r.2.2.1[i]? = some a → cntB f t a = true) := by
        intro i f t a h1 h2 h3
        exact HF.out i f t a (by have := (List.getElem?_eq_some_iff.1 h1).1; rw [HKC.out] at this; exact this) h1 h2 h3
       clear HF
       replace HBW := hide (bel_next HBW.out HB.out)
       clear HB
       generalize hww : wr = wC at *
       clear hww
       go_wp2
       go_loopw [62] (fun v wr => ∃ i : Nat, i ≤ n4 ∧ v = .int .i64 i ∧ Hid (∀ z ∈ r.2.2.2.take i, mayR12 z = true) ∧ Hid (Below wC.heap.size wC wr)) (fun v _ => n4 - (intOf v).toNat)
       case atStart => exact ⟨0, by omega, rfl, (fun z hz => by simp at hz), Below.refl _ _⟩
       case round =>
        clear a0 a1 a2 b0 b1 b2 b3
        obtain ⟨k0, hk, rfl, HF, HB⟩ := hrel
        by_cases hlt : k0 < n4
        ·obtain ⟨ba, oa, rfl⟩ := LS.addr HR.out.g (by omega)
         obtain ⟨px, nx, cx, lx, hx, x0, hX, _⟩ := LS.at ((HR.out.below (bel_next HB0.out (bel_next HBW.out HB.out))).g) k0 hlt
         have HX1 := hide hX
         have hk0 : (0 : Int) ≤ (k0 : Int) := by omega
         have hk1 : (k0 : Int) < (n4 : Int) := by omega
         have hmk : n4 ≤ 9223372036854775807 := by have h := LS.max HR.out.g; unfold maxLen at h; omega
         rcases hm : mayR12 lx with _ | _
         ·have HM : Hid (chkN lx = 1) := by unfold Hid chkN; rw [hm]; rfl
          have HNO : Hid (chkW k r = 1) := chkW_no (fun h => by have := h.2.2.2.2 lx (List.mem_of_getElem? hx); rw [hm] at this; cases this)
          clear hx hX hm
          go_wp2_with (go_at_call 56; refine (Check12_any px nx cx lx _ HX1.out).mono ?_; rintro e wn ⟨rfl, hb⟩; rw [HM.out]; replace HB := hide (bel_next HB.out hb); (try replace a0 := bcell hb a0); (try replace a1 := bcell hb a1); (try replace a2 := bcell hb a2); (try replace b0 := bcell hb b0); (try replace b1 := bcell hb b1); (try replace b2 := bcell hb b2); (try replace b3 := bcell hb b3); (try replace x0 := bcell hb x0); (try replace y0 := bcell hb y0); (try replace y1 := bcell hb y1); (try replace v0 := bcell hb v0); clear hb)
          go_ret
          exact ⟨by rw [HNO.out]; rfl, bel_next HB0.out (bel_next HBW.out HB.out)⟩
         ·have HM : Hid (chkN lx = 0) := by unfold Hid chkN; rw [hm]; rfl
          have HF2 : Hid (∀ z ∈ r.2.2.2.take (k0 + 1), mayR12 z = true) := by
           intro z hz
           rw [takeG_snoc hx] at hz
           rcases List.mem_append.1 hz with q | q
           ·exact HF.out z q
           ·rw [List.mem_singleton] at q; subst q; exact hm
          clear hx hX hm
          go_wp2_with (go_at_call 56; refine (Check12_any px nx cx lx _ HX1.out).mono ?_; rintro e wn ⟨rfl, hb⟩; rw [HM.out]; replace HB := hide (bel_next HB.out hb); (try replace a0 := bcell hb a0); (try replace a1 := bcell hb a1); (try replace a2 := bcell hb a2); (try replace b0 := bcell hb b0); (try replace b1 := bcell hb b1); (try replace b2 := bcell hb b2); (try replace b3 := bcell hb b3); (try replace x0 := bcell hb x0); (try replace y0 := bcell hb y0); (try replace y1 := bcell hb y1); (try replace v0 := bcell hb v0); clear hb)
          go_roundw
          case rel => exact ⟨k0 + 1, by omega, by go_num, HF2, HB⟩
          case measure => simp [intOf]; omega
        ·obtain rfl : k0 = n4 := by omega
         have HYES : Hid (chkW k r = 0) := by
          unfold Hid chkW
          rw [if_pos]
          refine mayW_iff.2 ⟨HKT.out, HLEN.out, HF1.out, HFC.out, ?_⟩
          have h := HF.out
          rw [List.take_of_length_le (by rw [HL4.out]; exact Nat.le_refl _)] at h
          exact h
         clear HF
         go_wp2
         go_ret
         exact ⟨by rw [HYES.out]; rfl, bel_next HB0.out (bel_next HBW.out HB.out)⟩
end Go.Proofs.YtkbbegbpkndebaaGreat

