/- Texts of this claim, joined: GNb, GNp. -/
import Derived.Lib.AppendZeros
import Derived.Test.YtkbbegbpkndebaaGreatJ10
import Derived.Test.YtkbbegbpkndebaaGreatJ13
import Derived.Test.YtkbbegbpkndebaaGreatJ30
import Derived.Test.YtkbbegbpkndebaaGreatJ7
/- The later one of two notes; a key looked for, registers compared, slices.Grow and slices.Concat (layer 12). -/
namespace Go.Proofs.YtkbbegbpkndebaaGreat
open Go.RowKit Go.Lib Go.Sort
set_option linter.unusedVariables false
set_option maxHeartbeats 4000000 in
theorem equalNt_any (a : Option Addr) (n cap : Nat) (s : List Nt) (a' : Option Addr) (n' cap' : Nat) (s' : List Nt) (w : World) (hA : NN w a n s) (hA' : NN w a' n' s') : Calls Tryz.prog 152 #[.slice a n cap, .slice a' n' cap'] w fun e w' => e = .returned (.bool (decide (s = s'))) ∧ Below w.heap.size w w' := by
 have HV := hide hA
 have HV' := hide hA'
 have HLEN := hide hA.1
 have HLEN' := hide hA'.1
 have hmx := hA.2.1
 unfold maxLen at hmx
 clear hA hA'
 by_cases hnn : n = n'
 ·subst hnn
  go_enter Tryz.func152, Tryz.ntmps152
  go_wp2
  go_loopw [13] (fun v wr => ∃ k : Nat, k ≤ n ∧ v = .int .i64 k ∧ Hid (s.take k = s'.take k) ∧ Hid (Below w.heap.size w wr)) (fun v _ => n - (intOf v).toNat)
  case atStart => exact ⟨0, by omega, rfl, (show _ = _ by simp), Below.refl _ _⟩
  case round =>
   obtain ⟨k0, hk, rfl, HF, HB⟩ := hrel
   by_cases hlt : k0 < n
   ·obtain ⟨b, off, rfl⟩ := HV.out.addr (by omega)
    obtain ⟨b', off', rfl⟩ := HV'.out.addr (by omega)
    obtain ⟨k, ta, rp, wd, hx, c0, c1, c2, c3⟩ := (HV.out.below HB.out).at k0 hlt
    obtain ⟨k', ta', rp', wd', hx', d0, d1, d2, d3⟩ := (HV'.out.below HB.out).at k0 hlt
    have hk0 : (0 : Int) ≤ (k0 : Int) := by omega
    have hk1 : (k0 : Int) < (n : Int) := by omega
    have hq := eqK k k'
    have hp := eqK wd wd'
    have HX := hide hx
    have HX' := hide hx'
    clear hx hx'
    by_cases he : k = k'
    ·rw [decide_eq_true he] at hq
     subst he
     by_cases h1 : ta = ta'
     ·subst h1
      by_cases h2 : rp = rp'
      ·subst h2
       by_cases h3 : wd = wd'
       ·rw [decide_eq_true h3] at hp
        have HF2 : Hid (s.take (k0 + 1) = s'.take (k0 + 1)) := by unfold Hid; rw [takeG_snoc HX.out, takeG_snoc HX'.out, HF.out, h3]
        subst h3
        go_upto_region 6 with fail
        refine wp_region_held_drew (S := fun W => Below wr.heap.size wr W) (by kernel_rfl) ((Below.refl _ wr).drew) (fun hS0 => ?_)
        refine tkJ 0 16 hS0 ?_; simp only [ly]
        refine tkJ 1 17 hS0 ?_; simp only [ly]
        refine tkJ 2 18 hS0 ?_; simp only [ly]
        refine tkL 3 19 hS0 ?h ?_; case h => (intro W hW; have e0 := bcell hW c0; have e1 := bcell hW c1; have e2 := bcell hW c2; have e3 := bcell hW c3; have e4 := bcell hW d0; have e5 := bcell hW d1; have e6 := bcell hW d2; have e7 := bcell hW d3; clear hW; go_simp; try rfl); simp only [ly]
        refine tkJ 4 20 hS0 ?_; simp only [ly]
        refine tkJ 5 21 hS0 ?_; simp only [ly]
        refine tkJ 6 22 hS0 ?_; simp only [ly]
        refine tkL 7 23 hS0 ?h ?_; case h => (intro W hW; have e0 := bcell hW c0; have e1 := bcell hW c1; have e2 := bcell hW c2; have e3 := bcell hW c3; have e4 := bcell hW d0; have e5 := bcell hW d1; have e6 := bcell hW d2; have e7 := bcell hW d3; clear hW; go_simp; try rfl); simp only [ly]
        refine tkJ 8 24 hS0 ?_; simp only [ly]
        refine wpAnyH_done (by kernel_rfl) ?_ _
        go_wp2
        go_roundw
        case rel => exact ⟨k0 + 1, by omega, by go_num, HF2, (show Hid _ from bel_next HB.out hS0)⟩
        case measure => simp [intOf]; omega
       ·rw [decide_eq_false h3] at hp
        have HNO : Hid (decide (s = s') = false) := by
         unfold Hid
         rw [decide_eq_false_iff_not]
         intro q
         have h1 := HX.out
         rw [q, HX'.out] at h1
         cases h1
         exact h3 rfl
        go_upto_region 6 with fail
        refine wp_region_held_drew (S := fun W => Below wr.heap.size wr W) (by kernel_rfl) ((Below.refl _ wr).drew) (fun hS0 => ?_)
        refine tkJ 0 16 hS0 ?_; simp only [ly]
        refine tkJ 1 17 hS0 ?_; simp only [ly]
        refine tkJ 2 18 hS0 ?_; simp only [ly]
        refine tkL 3 19 hS0 ?h ?_; case h => (intro W hW; have e0 := bcell hW c0; have e1 := bcell hW c1; have e2 := bcell hW c2; have e3 := bcell hW c3; have e4 := bcell hW d0; have e5 := bcell hW d1; have e6 := bcell hW d2; have e7 := bcell hW d3; clear hW; go_simp; try rfl); simp only [ly]
        refine tkJ 4 20 hS0 ?_; simp only [ly]
        refine tkJ 5 21 hS0 ?_; simp only [ly]
        refine tkJ 6 22 hS0 ?_; simp only [ly]
        refine tkL 7 23 hS0 ?h ?_; case h => (intro W hW; have e0 := bcell hW c0; have e1 := bcell hW c1; have e2 := bcell hW c2; have e3 := bcell hW c3; have e4 := bcell hW d0; have e5 := bcell hW d1; have e6 := bcell hW d2; have e7 := bcell hW d3; clear hW; go_simp; try rfl); simp only [ly]
        refine tkJ 8 24 hS0 ?_; simp only [ly]
        refine wpAnyH_done (by kernel_rfl) ?_ _
        go_wp2
        go_ret
        exact ⟨by rw [HNO.out]; rfl, bel_next HB.out hS0⟩
      ·have e2 : (rp == rp') = false := by rw [beq_eq_false_iff_ne]; exact h2
       have HNO : Hid (decide (s = s') = false) := by
        unfold Hid
        rw [decide_eq_false_iff_not]
        intro q
        have h1 := HX.out
        rw [q, HX'.out] at h1
        cases h1
        exact h2 rfl
       go_upto_region 6 with fail
       refine wp_region_held_drew (S := fun W => Below wr.heap.size wr W) (by kernel_rfl) ((Below.refl _ wr).drew) (fun hS0 => ?_)
       refine tkJ 0 16 hS0 ?_; simp only [ly]
       refine tkJ 1 17 hS0 ?_; simp only [ly]
       refine tkJ 2 18 hS0 ?_; simp only [ly]
       refine tkL 3 19 hS0 ?h ?_; case h => (intro W hW; have e0 := bcell hW c0; have e1 := bcell hW c1; have e2 := bcell hW c2; have e3 := bcell hW c3; have e4 := bcell hW d0; have e5 := bcell hW d1; have e6 := bcell hW d2; have e7 := bcell hW d3; clear hW; go_simp; try rfl); simp only [ly]
       refine tkJ 4 20 hS0 ?_; simp only [ly]
       refine tkJ 5 21 hS0 ?_; simp only [ly]
       refine tkJ 6 22 hS0 ?_; simp only [ly]
       refine tkL 7 23 hS0 ?h ?_; case h => (intro W hW; have e0 := bcell hW c0; have e1 := bcell hW c1; have e2 := bcell hW c2; have e3 := bcell hW c3; have e4 := bcell hW d0; have e5 := bcell hW d1; have e6 := bcell hW d2; have e7 := bcell hW d3; clear hW; go_simp; try rfl); simp only [ly]
       refine tkJ 8 24 hS0 ?_; simp only [ly]
       refine wpAnyH_done (by kernel_rfl) ?_ _
       go_wp2
       go_ret
       exact ⟨by rw [HNO.out]; rfl, bel_next HB.out hS0⟩
     ·have e2 : (ta == ta') = false := by rw [beq_eq_false_iff_ne]; exact h1
      have HNO : Hid (decide (s = s') = false) := by
       unfold Hid
       rw [decide_eq_false_iff_not]
       intro q
       have h1 := HX.out
       rw [q, HX'.out] at h1
       cases h1
       exact h1 rfl
      go_upto_region 6 with fail
      refine wp_region_held_drew (S := fun W => Below wr.heap.size wr W) (by kernel_rfl) ((Below.refl _ wr).drew) (fun hS0 => ?_)
      refine tkJ 0 16 hS0 ?_; simp only [ly]
      refine tkJ 1 17 hS0 ?_; simp only [ly]
      refine tkJ 2 18 hS0 ?_; simp only [ly]
      refine tkL 3 19 hS0 ?h ?_; case h => (intro W hW; have e0 := bcell hW c0; have e1 := bcell hW c1; have e2 := bcell hW c2; have e3 := bcell hW c3; have e4 := bcell hW d0; have e5 := bcell hW d1; have e6 := bcell hW d2; have e7 := bcell hW d3; clear hW; go_simp; try rfl); simp only [ly]
      refine tkJ 4 20 hS0 ?_; simp only [ly]
      refine tkJ 5 21 hS0 ?_; simp only [ly]
      refine tkJ 6 22 hS0 ?_; simp only [ly]
      refine tkL 7 23 hS0 ?h ?_; case h => (intro W hW; have e0 := bcell hW c0; have e1 := bcell hW c1; have e2 := bcell hW c2; have e3 := bcell hW c3; have e4 := bcell hW d0; have e5 := bcell hW d1; have e6 := bcell hW d2; have e7 := bcell hW d3; clear hW; go_simp; try rfl); simp only [ly]
      refine tkJ 8 24 hS0 ?_; simp only [ly]
      refine wpAnyH_done (by kernel_rfl) ?_ _
      go_wp2
      go_ret
      exact ⟨by rw [HNO.out]; rfl, bel_next HB.out hS0⟩
    ·rw [decide_eq_false he] at hq
     have HNO : Hid (decide (s = s') = false) := by
      unfold Hid
      rw [decide_eq_false_iff_not]
      intro q
      have h1 := HX.out
      rw [q, HX'.out] at h1
      cases h1
      exact he rfl
     go_upto_region 6 with fail
     refine wp_region_held_drew (S := fun W => Below wr.heap.size wr W) (by kernel_rfl) ((Below.refl _ wr).drew) (fun hS0 => ?_)
     refine tkJ 0 16 hS0 ?_; simp only [ly]
     refine tkJ 1 17 hS0 ?_; simp only [ly]
     refine tkJ 2 18 hS0 ?_; simp only [ly]
     refine tkL 3 19 hS0 ?h ?_; case h => (intro W hW; have e0 := bcell hW c0; have e1 := bcell hW c1; have e2 := bcell hW c2; have e3 := bcell hW c3; have e4 := bcell hW d0; have e5 := bcell hW d1; have e6 := bcell hW d2; have e7 := bcell hW d3; clear hW; go_simp; try rfl); simp only [ly]
     refine tkJ 4 20 hS0 ?_; simp only [ly]
     refine tkJ 5 21 hS0 ?_; simp only [ly]
     refine tkJ 6 22 hS0 ?_; simp only [ly]
     refine tkL 7 23 hS0 ?h ?_; case h => (intro W hW; have e0 := bcell hW c0; have e1 := bcell hW c1; have e2 := bcell hW c2; have e3 := bcell hW c3; have e4 := bcell hW d0; have e5 := bcell hW d1; have e6 := bcell hW d2; have e7 := bcell hW d3; clear hW; go_simp; try rfl); simp only [ly]
     refine tkJ 8 24 hS0 ?_; simp only [ly]
     refine wpAnyH_done (by kernel_rfl) ?_ _
     go_wp2
     go_ret
     exact ⟨by rw [HNO.out]; rfl, bel_next HB.out hS0⟩
   ·obtain rfl : k0 = n := by omega
    have HR : Hid (s = s') := by
     have := HF.out
     rwa [List.take_of_length_le (by rw [HLEN.out]; exact Nat.le_refl _), List.take_of_length_le (by rw [HLEN'.out]; exact Nat.le_refl _)] at this
    clear HF
    go_wp2
    go_ret
    exact ⟨by rw [decide_eq_true HR.out]; rfl, HB.out⟩
 ·have HNO : Hid (decide (s = s') = false) := by
   unfold Hid
   rw [decide_eq_false_iff_not]
   intro q
   have := HLEN.out
   rw [q, HLEN'.out] at this
   exact hnn this.symm
  have hnz : ¬ (n : Int) = (n' : Int) := by omega
  have hnb : ((n : Int) == (n' : Int)) = false := by rw [beq_eq_false_iff_ne]; exact hnz
  go_enter Tryz.func152, Tryz.ntmps152
  go_wp2
  go_ret
  exact ⟨by rw [HNO.out]; rfl, Below.refl _ _⟩
end Go.Proofs.YtkbbegbpkndebaaGreat

/- What the program's exported functions of layer 12 tell. -/
namespace Go.Proofs.YtkbbegbpkndebaaGreat
open Go.RowKit Go.Lib
set_option linter.unusedVariables false
set_option maxHeartbeats 1000000 in
theorem Same12_any (a : Option Addr) (n cap : Nat) (s : List Nt) (a' : Option Addr) (n' cap' : Nat) (s' : List Nt) (w : World) (hA : NN w a n s) (hA' : NN w a' n' s') : Calls Tryz.prog 96 #[.slice a n cap, .slice a' n' cap'] w fun e w' => e = .returned (.bool (decide (s = s'))) ∧ Below w.heap.size w w' := by
 have HM := hide (equalNt_any a n cap s a' n' cap' s' w hA hA')
 clear hA hA'
 go_enter Tryz.func96, Tryz.ntmps96
 go_wp2_with (go_at_call 152; refine HM.out.mono ?_; rintro e w1 ⟨rfl, hb⟩)
 go_ret
 exact ⟨rfl, hb⟩
end Go.Proofs.YtkbbegbpkndebaaGreat

