/- Texts of this claim, joined: B5. -/
import Derived.Test.YtkbbegbpkndebaaGreatJ17
/- Are sets alike: the document's answer and the program's (layer 8). -/
namespace Go.Proofs.YtkbbegbpkndebaaGreat
open Go.RowKit Go.Lib
set_option linter.unusedVariables false
theorem same_step {s t : List En} {k : Nat} {x : En} (hx : s[k]? = some x) (hy : t[k]? = some x) (h : s.take k = t.take k) : s.take (k + 1) = t.take (k + 1) := by rw [take_snocL hx, take_snocL hy, h]
theorem same_no {s t : List En} {k : Nat} {x y : En} (hx : s[k]? = some x) (hy : t[k]? = some y) (h : x ≠ y) : decide (s = t) = false := by
 rw [decide_eq_false_iff_not]
 rintro rfl
 rw [hx] at hy
 cases hy
 exact h rfl
theorem same_len {s t : List En} (h : s.length ≠ t.length) : decide (s = t) = false := by
 rw [decide_eq_false_iff_not]
 rintro rfl
 exact h rfl
set_option maxHeartbeats 8000000 in
theorem SameS_ref (a : Option Addr) (n cap : Nat) (s : List En) (a' : Option Addr) (n' cap' : Nat) (t : List En) (w : World) (hA : NSS w a n s) (hA' : NSS w a' n' t) : Calls Tryz.prog 71 #[.slice a n cap, .slice a' n' cap'] w fun e w' => e = .returned (.bool (decide (s = t))) ∧ Below w.heap.size w w' := by
 have HV := hide hA
 have HV' := hide hA'
 have HLEN := hide hA.len
 have HLEN' := hide hA'.len
 have hmx := hA.max
 unfold maxLen at hmx
 clear hA hA'
 by_cases hnn : n = n'
 ·subst hnn
  go_enter Tryz.func71, Tryz.ntmps71
  go_wp2
  go_loopw [5] (fun i wr => ∃ k : Nat, k ≤ n ∧ i = .int .i64 k ∧ Hid (s.take k = t.take k) ∧ Hid (Below w.heap.size w wr)) (fun i _ => n - (intOf i).toNat)
  case atStart => exact ⟨0, by omega, rfl, (show s.take 0 = t.take 0 by simp), Below.refl _ _⟩
  case round =>
   obtain ⟨k0, hk, rfl, HF, HB⟩ := hrel
   by_cases hlt : k0 < n
   ·obtain ⟨b, off, rfl⟩ := HV.out.addr (by omega)
    obtain ⟨b', off', rfl⟩ := HV'.out.addr (by omega)
    obtain ⟨k, pl, nl, cl, pd, nd, cd, ll, mm, hx, c0, c1, c2, h1, _, h3, _⟩ := (HV.out.below HB.out).at k0 hlt
    obtain ⟨k', pl', nl', cl', pd', nd', cd', ll', mm', hx', d0, d1, d2, h1', _, h3', _⟩ := (HV'.out.below HB.out).at k0 hlt
    have HX := hide hx
    have HX' := hide hx'
    have HL := hide h1
    have HD := hide h3
    have HL' := hide h1'
    have HD' := hide h3'
    have hk0 : (0 : Int) ≤ (k0 : Int) := by omega
    have hk1 : (k0 : Int) < (n : Int) := by omega
    have hq := eqK k k'
    clear hx hx' h1 h3 h1' h3'
    by_cases he : k = k'
    ·rw [decide_eq_true he] at hq
     rcases he1 : decide (ll = ll') with _ | _
     ·have HE1 := hide he1
      have HNO := hide (same_no HX.out HX'.out (fun e => by rw [decide_eq_false_iff_not] at he1; exact he1 (congrArg (fun x => x.2.1) e)))
      clear he he1
      go_upto_region 6 with fail
      refine wp_region_held_drew (S := fun W => Below wr.heap.size wr W) (by kernel_rfl) ((Below.refl _ wr).drew) (fun hS0 => ?_)
      refine tkJ 0 17 hS0 ?_; simp only [ly]
      refine tkJ 1 18 hS0 ?_; simp only [ly]
      refine tkJ 2 19 hS0 ?_; simp only [ly]
      refine tkJ 3 20 hS0 ?_; simp only [ly]
      refine tkL 4 21 hS0 ?h ?_; case h => (intro W hW; have e0 := bcell hW c0; have e1 := bcell hW c1; have e2 := bcell hW c2; have e3 := bcell hW d0; have e4 := bcell hW d1; have e5 := bcell hW d2; clear hW; go_simp; try rfl); simp only [ly]
      refine tkJ 5 22 hS0 ?_; simp only [ly]
      refine tkJ 6 23 hS0 ?_; simp only [ly]
      refine tkJ 7 24 hS0 ?_; simp only [ly]
      refine tkJ 8 25 hS0 ?_; simp only [ly]
      refine tkL 9 26 hS0 ?h ?_; case h => (intro W hW; have e0 := bcell hW c0; have e1 := bcell hW c1; have e2 := bcell hW c2; have e3 := bcell hW d0; have e4 := bcell hW d1; have e5 := bcell hW d2; clear hW; go_simp; try rfl); simp only [ly]
      refine tkJ 10 27 hS0 ?_; simp only [ly]
      refine tkJ 11 28 hS0 ?_; simp only [ly]
      refine tkJ 12 29 hS0 ?_; simp only [ly]
      refine tkJ 13 30 hS0 ?_; simp only [ly]
      refine tkJ 14 31 hS0 ?_; simp only [ly]
      refine tkJ 15 32 hS0 ?_; simp only [ly]
      refine tkL 16 33 hS0 ?h ?_; case h => (intro W hW; have e0 := bcell hW c0; have e1 := bcell hW c1; have e2 := bcell hW c2; have e3 := bcell hW d0; have e4 := bcell hW d1; have e5 := bcell hW d2; clear hW; go_simp; try rfl); simp only [ly]
      refine tkJ 17 34 hS0 ?_; simp only [ly]
      refine tkJ 18 35 hS0 ?_; simp only [ly]
      refine tkJ 19 36 hS0 ?_; simp only [ly]
      refine tkJ 20 37 hS0 ?_; simp only [ly]
      refine tkL 21 38 hS0 ?h ?_; case h => (intro W hW; have e0 := bcell hW c0; have e1 := bcell hW c1; have e2 := bcell hW c2; have e3 := bcell hW d0; have e4 := bcell hW d1; have e5 := bcell hW d2; clear hW; go_simp; try rfl); simp only [ly]
      refine wpAnyH_ready (rs := [22]) (by kernel_rfl) (by simp) ?_
      refine AllReadyH.cons rfl (fun K hK => ?_) AllReadyH.nil
      go_simp
      refine (Dots_any pl pl' nl cl nl' cl' ll ll' _ (HL.out.below hS0) (HL'.out.below hS0)).mono ?_
      rintro e w' ⟨rfl, hb⟩
      rw [show decide (ll = ll') = false from HE1.out]
      refine hK.out _ _ ?hs38 (fun hS1 => ?_)
      case hs38 => exact bel_next hS0 hb
      clear hK K hb
      try simp only [ly]
      refine tkJ 23 40 hS1 ?_; simp only [ly]
      refine tkJ 24 41 hS1 ?_; simp only [ly]
      refine tkJ 25 42 hS1 ?_; simp only [ly]
      refine tkM 26 43 hS1 ?_; simp only [ly]
      refine tkM 27 44 hS1 ?_; simp only [ly]
      refine tkM 28 45 hS1 ?_; simp only [ly]
      refine tkM 29 46 hS1 ?_; simp only [ly]
      refine tkM 30 47 hS1 ?_; simp only [ly]
      refine tkM 31 48 hS1 ?_; simp only [ly]
      refine tkM 32 49 hS1 ?_; simp only [ly]
      refine tkM 33 50 hS1 ?_; simp only [ly]
      refine tkM 34 51 hS1 ?_; simp only [ly]
      refine tkM 35 52 hS1 ?_; simp only [ly]
      refine tkM 36 53 hS1 ?_; simp only [ly]
      refine tkM 37 54 hS1 ?_; simp only [ly]
      refine tkJ 38 55 hS1 ?_; simp only [ly]
      refine wpAnyH_done (by kernel_rfl) ?_ _
      go_wp2
      go_ret
      exact ⟨by rw [HNO.out]; rfl, bel_next HB.out hS1⟩
     ·have HE1 := hide he1
      rcases he2 : decide (mm = mm') with _ | _
      ·have HE2 := hide he2
       have HNO := hide (same_no HX.out HX'.out (fun e => by rw [decide_eq_false_iff_not] at he2; exact he2 (congrArg (fun x => x.2.2) e)))
       clear he he1 he2
       go_upto_region 6 with fail
       refine wp_region_held_drew (S := fun W => Below wr.heap.size wr W) (by kernel_rfl) ((Below.refl _ wr).drew) (fun hS0 => ?_)
       refine tkJ 0 17 hS0 ?_; simp only [ly]
       refine tkJ 1 18 hS0 ?_; simp only [ly]
       refine tkJ 2 19 hS0 ?_; simp only [ly]
       refine tkJ 3 20 hS0 ?_; simp only [ly]
       refine tkL 4 21 hS0 ?h ?_; case h => (intro W hW; have e0 := bcell hW c0; have e1 := bcell hW c1; have e2 := bcell hW c2; have e3 := bcell hW d0; have e4 := bcell hW d1; have e5 := bcell hW d2; clear hW; go_simp; try rfl); simp only [ly]
       refine tkJ 5 22 hS0 ?_; simp only [ly]
       refine tkJ 6 23 hS0 ?_; simp only [ly]
       refine tkJ 7 24 hS0 ?_; simp only [ly]
       refine tkJ 8 25 hS0 ?_; simp only [ly]
       refine tkL 9 26 hS0 ?h ?_; case h => (intro W hW; have e0 := bcell hW c0; have e1 := bcell hW c1; have e2 := bcell hW c2; have e3 := bcell hW d0; have e4 := bcell hW d1; have e5 := bcell hW d2; clear hW; go_simp; try rfl); simp only [ly]
       refine tkJ 10 27 hS0 ?_; simp only [ly]
       refine tkJ 11 28 hS0 ?_; simp only [ly]
       refine tkJ 12 29 hS0 ?_; simp only [ly]
       refine tkJ 13 30 hS0 ?_; simp only [ly]
       refine tkJ 14 31 hS0 ?_; simp only [ly]
       refine tkJ 15 32 hS0 ?_; simp only [ly]
       refine tkL 16 33 hS0 ?h ?_; case h => (intro W hW; have e0 := bcell hW c0; have e1 := bcell hW c1; have e2 := bcell hW c2; have e3 := bcell hW d0; have e4 := bcell hW d1; have e5 := bcell hW d2; clear hW; go_simp; try rfl); simp only [ly]
       refine tkJ 17 34 hS0 ?_; simp only [ly]
       refine tkJ 18 35 hS0 ?_; simp only [ly]
       refine tkJ 19 36 hS0 ?_; simp only [ly]
       refine tkJ 20 37 hS0 ?_; simp only [ly]
       refine tkL 21 38 hS0 ?h ?_; case h => (intro W hW; have e0 := bcell hW c0; have e1 := bcell hW c1; have e2 := bcell hW c2; have e3 := bcell hW d0; have e4 := bcell hW d1; have e5 := bcell hW d2; clear hW; go_simp; try rfl); simp only [ly]
       refine wpAnyH_ready (rs := [22]) (by kernel_rfl) (by simp) ?_
       refine AllReadyH.cons rfl (fun K hK => ?_) AllReadyH.nil
       go_simp
       refine (Dots_any pl pl' nl cl nl' cl' ll ll' _ (HL.out.below hS0) (HL'.out.below hS0)).mono ?_
       rintro e w' ⟨rfl, hb⟩
       rw [show decide (ll = ll') = true from HE1.out]
       refine hK.out _ _ ?hs65 (fun hS1 => ?_)
       case hs65 => exact bel_next hS0 hb
       clear hK K hb
       try simp only [ly]
       refine tkJ 23 40 hS1 ?_; simp only [ly]
       refine tkJ 24 41 hS1 ?_; simp only [ly]
       refine tkJ 25 42 hS1 ?_; simp only [ly]
       refine tkJ 26 43 hS1 ?_; simp only [ly]
       refine tkJ 27 44 hS1 ?_; simp only [ly]
       refine tkJ 28 45 hS1 ?_; simp only [ly]
       refine tkJ 29 46 hS1 ?_; simp only [ly]
       refine tkL 30 47 hS1 ?h ?_; case h => (intro W hW; have e0 := bcell hW c0; have e1 := bcell hW c1; have e2 := bcell hW c2; have e3 := bcell hW d0; have e4 := bcell hW d1; have e5 := bcell hW d2; clear hW; go_simp; try rfl); simp only [ly]
       refine tkJ 31 48 hS1 ?_; simp only [ly]
       refine tkJ 32 49 hS1 ?_; simp only [ly]
       refine tkJ 33 50 hS1 ?_; simp only [ly]
       refine tkJ 34 51 hS1 ?_; simp only [ly]
       refine tkL 35 52 hS1 ?h ?_; case h => (intro W hW; have e0 := bcell hW c0; have e1 := bcell hW c1; have e2 := bcell hW c2; have e3 := bcell hW d0; have e4 := bcell hW d1; have e5 := bcell hW d2; clear hW; go_simp; try rfl); simp only [ly]
       refine wpAnyH_ready (rs := [36]) (by kernel_rfl) (by simp) ?_
       refine AllReadyH.cons rfl (fun K hK => ?_) AllReadyH.nil
       go_simp
       refine (Dots_any pd pd' nd cd nd' cd' mm mm' _ (HD.out.below hS1) (HD'.out.below hS1)).mono ?_
       rintro e w' ⟨rfl, hb⟩
       rw [show decide (mm = mm') = false from HE2.out]
       refine hK.out _ _ ?hs79 (fun hS2 => ?_)
       case hs79 => exact bel_next hS1 hb
       clear hK K hb
       try simp only [ly]
       refine tkJ 37 54 hS2 ?_; simp only [ly]
       refine tkJ 38 55 hS2 ?_; simp only [ly]
       refine wpAnyH_done (by kernel_rfl) ?_ _
       go_wp2
       go_ret
       exact ⟨by rw [HNO.out]; rfl, bel_next HB.out hS2⟩
      ·have HE2 := hide he2
       have HF2 : Hid (s.take (k0 + 1) = t.take (k0 + 1)) := by
        rw [decide_eq_true_iff] at he1 he2
        refine same_step HX.out ?_ HF.out
        rw [HX'.out, he, he1, he2]
       clear he he1 he2
       go_upto_region 6 with fail
       refine wp_region_held_drew (S := fun W => Below wr.heap.size wr W) (by kernel_rfl) ((Below.refl _ wr).drew) (fun hS0 => ?_)
       refine tkJ 0 17 hS0 ?_; simp only [ly]
       refine tkJ 1 18 hS0 ?_; simp only [ly]
       refine tkJ 2 19 hS0 ?_; simp only [ly]
       refine tkJ 3 20 hS0 ?_; simp only [ly]
       refine tkL 4 21 hS0 ?h ?_; case h => (intro W hW; have e0 := bcell hW c0; have e1 := bcell hW c1; have e2 := bcell hW c2; have e3 := bcell hW d0; have e4 := bcell hW d1; have e5 := bcell hW d2; clear hW; go_simp; try rfl); simp only [ly]
       refine tkJ 5 22 hS0 ?_; simp only [ly]
       refine tkJ 6 23 hS0 ?_; simp only [ly]
       refine tkJ 7 24 hS0 ?_; simp only [ly]
       refine tkJ 8 25 hS0 ?_; simp only [ly]
       refine tkL 9 26 hS0 ?h ?_; case h => (intro W hW; have e0 := bcell hW c0; have e1 := bcell hW c1; have e2 := bcell hW c2; have e3 := bcell hW d0; have e4 := bcell hW d1; have e5 := bcell hW d2; clear hW; go_simp; try rfl); simp only [ly]
       refine tkJ 10 27 hS0 ?_; simp only [ly]
       refine tkJ 11 28 hS0 ?_; simp only [ly]
       refine tkJ 12 29 hS0 ?_; simp only [ly]
       refine tkJ 13 30 hS0 ?_; simp only [ly]
       refine tkJ 14 31 hS0 ?_; simp only [ly]
       refine tkJ 15 32 hS0 ?_; simp only [ly]
       refine tkL 16 33 hS0 ?h ?_; case h => (intro W hW; have e0 := bcell hW c0; have e1 := bcell hW c1; have e2 := bcell hW c2; have e3 := bcell hW d0; have e4 := bcell hW d1; have e5 := bcell hW d2; clear hW; go_simp; try rfl); simp only [ly]
       refine tkJ 17 34 hS0 ?_; simp only [ly]
       refine tkJ 18 35 hS0 ?_; simp only [ly]
       refine tkJ 19 36 hS0 ?_; simp only [ly]
       refine tkJ 20 37 hS0 ?_; simp only [ly]
       refine tkL 21 38 hS0 ?h ?_; case h => (intro W hW; have e0 := bcell hW c0; have e1 := bcell hW c1; have e2 := bcell hW c2; have e3 := bcell hW d0; have e4 := bcell hW d1; have e5 := bcell hW d2; clear hW; go_simp; try rfl); simp only [ly]
       refine wpAnyH_ready (rs := [22]) (by kernel_rfl) (by simp) ?_
       refine AllReadyH.cons rfl (fun K hK => ?_) AllReadyH.nil
       go_simp
       refine (Dots_any pl pl' nl cl nl' cl' ll ll' _ (HL.out.below hS0) (HL'.out.below hS0)).mono ?_
       rintro e w' ⟨rfl, hb⟩
       rw [show decide (ll = ll') = true from HE1.out]
       refine hK.out _ _ ?hs104 (fun hS1 => ?_)
       case hs104 => exact bel_next hS0 hb
       clear hK K hb
       try simp only [ly]
       refine tkJ 23 40 hS1 ?_; simp only [ly]
       refine tkJ 24 41 hS1 ?_; simp only [ly]
       refine tkJ 25 42 hS1 ?_; simp only [ly]
       refine tkJ 26 43 hS1 ?_; simp only [ly]
       refine tkJ 27 44 hS1 ?_; simp only [ly]
       refine tkJ 28 45 hS1 ?_; simp only [ly]
       refine tkJ 29 46 hS1 ?_; simp only [ly]
       refine tkL 30 47 hS1 ?h ?_; case h => (intro W hW; have e0 := bcell hW c0; have e1 := bcell hW c1; have e2 := bcell hW c2; have e3 := bcell hW d0; have e4 := bcell hW d1; have e5 := bcell hW d2; clear hW; go_simp; try rfl); simp only [ly]
       refine tkJ 31 48 hS1 ?_; simp only [ly]
       refine tkJ 32 49 hS1 ?_; simp only [ly]
       refine tkJ 33 50 hS1 ?_; simp only [ly]
       refine tkJ 34 51 hS1 ?_; simp only [ly]
       refine tkL 35 52 hS1 ?h ?_; case h => (intro W hW; have e0 := bcell hW c0; have e1 := bcell hW c1; have e2 := bcell hW c2; have e3 := bcell hW d0; have e4 := bcell hW d1; have e5 := bcell hW d2; clear hW; go_simp; try rfl); simp only [ly]
       refine wpAnyH_ready (rs := [36]) (by kernel_rfl) (by simp) ?_
       refine AllReadyH.cons rfl (fun K hK => ?_) AllReadyH.nil
       go_simp
       refine (Dots_any pd pd' nd cd nd' cd' mm mm' _ (HD.out.below hS1) (HD'.out.below hS1)).mono ?_
       rintro e w' ⟨rfl, hb⟩
       rw [show decide (mm = mm') = true from HE2.out]
       refine hK.out _ _ ?hs118 (fun hS2 => ?_)
       case hs118 => exact bel_next hS1 hb
       clear hK K hb
       try simp only [ly]
       refine tkJ 37 54 hS2 ?_; simp only [ly]
       refine tkJ 38 55 hS2 ?_; simp only [ly]
       refine wpAnyH_done (by kernel_rfl) ?_ _
       go_wp2
       go_roundw
       case rel => exact ⟨k0 + 1, by omega, by go_num, HF2, (show Hid _ from bel_next HB.out hS2)⟩
       case measure => simp [intOf]; omega
    ·rw [decide_eq_false he] at hq
     have HNO := hide (same_no HX.out HX'.out (fun e => he (congrArg (fun x => x.1) e)))
     clear he
     go_upto_region 6 with fail
     refine wp_region_held_drew (S := fun W => Below wr.heap.size wr W) (by kernel_rfl) ((Below.refl _ wr).drew) (fun hS0 => ?_)
     refine tkJ 0 17 hS0 ?_; simp only [ly]
     refine tkJ 1 18 hS0 ?_; simp only [ly]
     refine tkJ 2 19 hS0 ?_; simp only [ly]
     refine tkJ 3 20 hS0 ?_; simp only [ly]
     refine tkL 4 21 hS0 ?h ?_; case h => (intro W hW; have e0 := bcell hW c0; have e1 := bcell hW c1; have e2 := bcell hW c2; have e3 := bcell hW d0; have e4 := bcell hW d1; have e5 := bcell hW d2; clear hW; go_simp; try rfl); simp only [ly]
     refine tkJ 5 22 hS0 ?_; simp only [ly]
     refine tkJ 6 23 hS0 ?_; simp only [ly]
     refine tkJ 7 24 hS0 ?_; simp only [ly]
     refine tkJ 8 25 hS0 ?_; simp only [ly]
     refine tkL 9 26 hS0 ?h ?_; case h => (intro W hW; have e0 := bcell hW c0; have e1 := bcell hW c1; have e2 := bcell hW c2; have e3 := bcell hW d0; have e4 := bcell hW d1; have e5 := bcell hW d2; clear hW; go_simp; try rfl); simp only [ly]
     refine tkJ 10 27 hS0 ?_; simp only [ly]
     refine tkJ 11 28 hS0 ?_; simp only [ly]
     refine tkM 12 29 hS0 ?_; simp only [ly]
     refine tkM 13 30 hS0 ?_; simp only [ly]
     refine tkM 14 31 hS0 ?_; simp only [ly]
     refine tkM 15 32 hS0 ?_; simp only [ly]
     refine tkM 16 33 hS0 ?_; simp only [ly]
     refine tkM 17 34 hS0 ?_; simp only [ly]
     refine tkM 18 35 hS0 ?_; simp only [ly]
     refine tkM 19 36 hS0 ?_; simp only [ly]
     refine tkM 20 37 hS0 ?_; simp only [ly]
     refine tkM 21 38 hS0 ?_; simp only [ly]
     refine tkM 22 39 hS0 ?_; simp only [ly]
     refine tkM 23 40 hS0 ?_; simp only [ly]
     refine tkJ 24 41 hS0 ?_; simp only [ly]
     refine tkJ 25 42 hS0 ?_; simp only [ly]
     refine tkM 26 43 hS0 ?_; simp only [ly]
     refine tkM 27 44 hS0 ?_; simp only [ly]
     refine tkM 28 45 hS0 ?_; simp only [ly]
     refine tkM 29 46 hS0 ?_; simp only [ly]
     refine tkM 30 47 hS0 ?_; simp only [ly]
     refine tkM 31 48 hS0 ?_; simp only [ly]
     refine tkM 32 49 hS0 ?_; simp only [ly]
     refine tkM 33 50 hS0 ?_; simp only [ly]
     refine tkM 34 51 hS0 ?_; simp only [ly]
     refine tkM 35 52 hS0 ?_; simp only [ly]
     refine tkM 36 53 hS0 ?_; simp only [ly]
     refine tkM 37 54 hS0 ?_; simp only [ly]
     refine tkJ 38 55 hS0 ?_; simp only [ly]
     refine wpAnyH_done (by kernel_rfl) ?_ _
     go_wp2
     go_ret
     exact ⟨by rw [HNO.out]; rfl, bel_next HB.out hS0⟩
   ·obtain rfl : k0 = n := by omega
    have HE : Hid (decide (s = t) = true) := by
     have h := HF.out
     rw [← HLEN.out, List.take_length, HLEN.out, ← HLEN'.out, List.take_length] at h
     exact decide_eq_true h
    clear HF
    go_wp2
    go_ret
    exact ⟨by rw [HE.out]; rfl, HB.out⟩
 ·have HNO := hide (same_len (s := s) (t := t) (by rw [HLEN.out, HLEN'.out]; exact hnn))
  have hn2 : ((n : Int) == (n' : Int)) = false := by rw [beq_eq_false_iff_ne]; omega
  have hn3 : ¬ ((n : Int) = (n' : Int)) := by omega
  go_enter Tryz.func71, Tryz.ntmps71
  go_wp2
  go_ret
  exact ⟨by rw [HNO.out]; rfl, Below.refl _ _⟩
set_option maxHeartbeats 4000000 in
theorem equalN_any (a : Option Addr) (n cap : Nat) (s : List En) (a' : Option Addr) (n' cap' : Nat) (t : List En) (w : World) (hA : NSS w a n s) (hA' : NSS w a' n' t) : Calls Tryz.prog 147 #[.slice a n cap, .slice a' n' cap', .func (.func 148) #[] #[]] w fun e w' => e = .returned (.bool (decide (s = t))) ∧ Below w.heap.size w w' := by
 have HV := hide hA
 have HV' := hide hA'
 have HLEN := hide hA.len
 have HLEN' := hide hA'.len
 have hmx := hA.max
 unfold maxLen at hmx
 clear hA hA'
 by_cases hnn : n = n'
 ·subst hnn
  go_enter Tryz.func147, Tryz.ntmps147
  go_wp2
  go_loopw [17] (fun i wr => ∃ k : Nat, k ≤ n ∧ i = .int .i64 k ∧ Hid (s.take k = t.take k) ∧ Hid (Below w.heap.size w wr)) (fun i _ => n - (intOf i).toNat)
  case atStart => exact ⟨0, by omega, rfl, (show s.take 0 = t.take 0 by simp), Below.refl _ _⟩
  case round =>
   obtain ⟨k0, hk, rfl, HF, HB⟩ := hrel
   by_cases hlt : k0 < n
   ·obtain ⟨b, off, rfl⟩ := HV.out.addr (by omega)
    obtain ⟨b', off', rfl⟩ := HV'.out.addr (by omega)
    obtain ⟨k, pl, nl, cl, pd, nd, cd, ll, mm, hx, c0, c1, c2, h1, _, h3, _⟩ := (HV.out.below HB.out).at k0 hlt
    obtain ⟨k', pl', nl', cl', pd', nd', cd', ll', mm', hx', d0, d1, d2, h1', _, h3', _⟩ := (HV'.out.below HB.out).at k0 hlt
    have HX := hide hx
    have HX' := hide hx'
    have HB2 := hide (bel2 wr (.cells #[.string k, .slice pl nl cl, .slice pd nd cd] 125) (.cells #[.string k', .slice pl' nl' cl', .slice pd' nd' cd'] 125))
    replace d0 := cell_old (.cells #[.string k, .slice pl nl cl, .slice pd nd cd] 125) d0
    replace d1 := cell_old (.cells #[.string k, .slice pl nl cl, .slice pd nd cd] 125) d1
    replace d2 := cell_old (.cells #[.string k, .slice pl nl cl, .slice pd nd cd] 125) d2
    have HS1 := hide (same1_any k pl nl cl pd nd cd ll mm k' pl' nl' cl' pd' nd' cd' ll' mm' _ (h1.below HB2.out) (h3.below HB2.out) (h1'.below HB2.out) (h3'.below HB2.out))
    have hk0 : (0 : Int) ≤ (k0 : Int) := by omega
    have hk1 : (k0 : Int) < (n : Int) := by omega
    clear hx hx' h1 h3 h1' h3'
    rcases he : decide (((k, ll, mm) : En) = (k', ll', mm')) with _ | _
    ·rw [he] at HS1
     have HNO := hide (same_no HX.out HX'.out (by rwa [decide_eq_false_iff_not] at he))
     clear he
     go_wp2_with (go_at_call 148; refine HS1.out.mono ?_; rintro e w' ⟨rfl, hb⟩)
     go_ret
     exact ⟨by rw [HNO.out]; rfl, bel_next HB.out (bel_next HB2.out hb)⟩
    ·rw [he] at HS1
     have HF2 : Hid (s.take (k0 + 1) = t.take (k0 + 1)) := by
      rw [decide_eq_true_iff] at he
      refine same_step HX.out ?_ HF.out
      rw [HX'.out, he]
     clear he
     go_wp2_with (go_at_call 148; refine HS1.out.mono ?_; rintro e w' ⟨rfl, hb⟩)
     go_roundw
     case rel => exact ⟨k0 + 1, by omega, by go_num, HF2, (show Hid _ from bel_next HB.out (bel_next HB2.out hb))⟩
     case measure => simp [intOf]; omega
   ·obtain rfl : k0 = n := by omega
    have HE : Hid (decide (s = t) = true) := by
     have h := HF.out
     rw [← HLEN.out, List.take_length, HLEN.out, ← HLEN'.out, List.take_length] at h
     exact decide_eq_true h
    clear HF
    go_wp2
    go_ret
    exact ⟨by rw [HE.out]; rfl, HB.out⟩
 ·have HNO := hide (same_len (s := s) (t := t) (by rw [HLEN.out, HLEN'.out]; exact hnn))
  have hn2 : ((n : Int) == (n' : Int)) = false := by rw [beq_eq_false_iff_ne]; omega
  have hn3 : ¬ ((n : Int) = (n' : Int)) := by omega
  go_enter Tryz.func147, Tryz.ntmps147
  go_wp2
  go_ret
  exact ⟨by rw [HNO.out]; rfl, Below.refl _ _⟩
set_option maxHeartbeats 400000 in
theorem SameN_any (a : Option Addr) (n cap : Nat) (s : List En) (a' : Option Addr) (n' cap' : Nat) (t : List En) (w : World) (hA : NSS w a n s) (hA' : NSS w a' n' t) : Calls Tryz.prog 90 #[.slice a n cap, .slice a' n' cap'] w fun e w' => e = .returned (.bool (decide (s = t))) ∧ Below w.heap.size w w' := by
 have HE := hide (equalN_any a n cap s a' n' cap' t w hA hA')
 generalize decide (s = t) = b at *
 clear hA hA'
 go_enter Tryz.func90, Tryz.ntmps90
 go_wp2_with (go_at_call 147; refine HE.out.mono ?_; rintro e w1 ⟨rfl, hb⟩)
 go_ret
 exact ⟨rfl, hb⟩
end Go.Proofs.YtkbbegbpkndebaaGreat

