/- Texts of this claim, joined: GNa. -/
import Derived.Test.YtkbbegbpkndebaaGreatJ21
/- What the program checks of a register (layer 12); which of two notes is later. -/
namespace Go.Proofs.YtkbbegbpkndebaaGreat
open Go.RowKit Go.Lib
set_option linter.unusedVariables false
def chkN (s : List Nt) : Int := if mayR12 s = true then 0 else 1
theorem chkN_yes {s : List Nt} (h : mayR12 s = true) : chkN s = 0 := by unfold chkN; rw [if_pos h]
theorem chkN_no {s : List Nt} (h : mayR12 s = false) : chkN s = 1 := by unfold chkN; rw [h]; rfl
set_option maxHeartbeats 2000000 in
theorem note12_any (k : ByteArray) (ta rp : Int) (wd : ByteArray) (w : World) : Calls Tryz.prog 129 #[.agg #[.string k, .int .i64 ta, .int .i64 rp, .string wd]] w fun e w' => e = .returned (.bool (mayNt (k, ta, rp, wd))) ∧ Below w.heap.size w w' := by
 by_cases h0 : 1 ≤ (k.size : Int)
 ·by_cases h1 : (k.size : Int) ≤ 32
  ·by_cases h2 : 1 ≤ ta
   ·by_cases h3 : ta ≤ 1099511627776
    ·by_cases h4 : 1 ≤ rp
     ·by_cases h5 : rp ≤ 5
      ·by_cases h6 : (wd.size : Int) ≤ 64
       ·have HR : Hid (mayNt (k, ta, rp, wd) = true) := mayNt_iff.2 ⟨by simp [mayK]; omega, ⟨h2, h3⟩, ⟨h4, h5⟩, by simp only; omega⟩
        go_enter Tryz.func129, Tryz.ntmps129
        go_wp2
        go_ret
        exact ⟨by rw [HR.out]; first | rfl | (simp; omega), bel1 _ _⟩
       ·have HR : Hid (mayNt (k, ta, rp, wd) = false) := by
         unfold Hid
         rw [Bool.eq_false_iff]
         intro h
         have h := mayNt_iff.1 h
         simp [mayK] at h
         omega
        go_enter Tryz.func129, Tryz.ntmps129
        go_wp2
        go_ret
        exact ⟨by rw [HR.out]; first | rfl | (simp; omega), bel1 _ _⟩
      ·have HR : Hid (mayNt (k, ta, rp, wd) = false) := by
        unfold Hid
        rw [Bool.eq_false_iff]
        intro h
        have h := mayNt_iff.1 h
        simp [mayK] at h
        omega
       go_enter Tryz.func129, Tryz.ntmps129
       go_wp2
       go_ret
       exact ⟨by rw [HR.out]; first | rfl | (simp; omega), bel1 _ _⟩
     ·have HR : Hid (mayNt (k, ta, rp, wd) = false) := by
       unfold Hid
       rw [Bool.eq_false_iff]
       intro h
       have h := mayNt_iff.1 h
       simp [mayK] at h
       omega
      go_enter Tryz.func129, Tryz.ntmps129
      go_wp2
      go_ret
      exact ⟨by rw [HR.out]; first | rfl | (simp; omega), bel1 _ _⟩
    ·have HR : Hid (mayNt (k, ta, rp, wd) = false) := by
      unfold Hid
      rw [Bool.eq_false_iff]
      intro h
      have h := mayNt_iff.1 h
      simp [mayK] at h
      omega
     go_enter Tryz.func129, Tryz.ntmps129
     go_wp2
     go_ret
     exact ⟨by rw [HR.out]; first | rfl | (simp; omega), bel1 _ _⟩
   ·have HR : Hid (mayNt (k, ta, rp, wd) = false) := by
     unfold Hid
     rw [Bool.eq_false_iff]
     intro h
     have h := mayNt_iff.1 h
     simp [mayK] at h
     omega
    go_enter Tryz.func129, Tryz.ntmps129
    go_wp2
    go_ret
    exact ⟨by rw [HR.out]; first | rfl | (simp; omega), bel1 _ _⟩
  ·have HR : Hid (mayNt (k, ta, rp, wd) = false) := by
    unfold Hid
    rw [Bool.eq_false_iff]
    intro h
    have h := mayNt_iff.1 h
    simp [mayK] at h
    omega
   go_enter Tryz.func129, Tryz.ntmps129
   go_wp2
   go_ret
   exact ⟨by rw [HR.out]; first | rfl | (simp; omega), bel1 _ _⟩
 ·have HR : Hid (mayNt (k, ta, rp, wd) = false) := by
   unfold Hid
   rw [Bool.eq_false_iff]
   intro h
   have h := mayNt_iff.1 h
   simp [mayK] at h
   omega
  go_enter Tryz.func129, Tryz.ntmps129
  go_wp2
  go_ret
  exact ⟨by rw [HR.out]; first | rfl | (simp; omega), bel1 _ _⟩
set_option maxHeartbeats 4000000 in
theorem Check12_any (a : Option Addr) (n cap : Nat) (s : List Nt) (w : World) (hA : NN w a n s) : Calls Tryz.prog 56 #[.slice a n cap] w fun e w' => e = .returned (.int .i64 (chkN s)) ∧ Below w.heap.size w w' := by
 have HV := hide hA
 have hmx := hA.2.1
 have HLEN := hide hA.1
 unfold maxLen at hmx
 clear hA
 by_cases hbig : (4000 : Int) < (n : Int)
 ·have HR : Hid (chkN s = 1) := by
   unfold Hid chkN
   rw [if_neg]
   intro h
   have := (mayG_iff.1 h).2.2
   rw [HLEN.out] at this
   omega
  go_enter Tryz.func56, Tryz.ntmps56
  go_wp2
  go_ret
  exact ⟨by simp [HR.out], Below.refl _ _⟩
 ·go_enter Tryz.func56, Tryz.ntmps56
  go_wp2
  go_loopw [10] (fun i wr => ∃ k : Nat, k ≤ n ∧ i = .int .i64 k ∧ Hid ((s.take k).all mayNt = true ∧ SrtG kN (s.take k)) ∧ Hid (Below w.heap.size w wr)) (fun i _ => n - (intOf i).toNat)
  case atStart => exact ⟨0, by omega, rfl, (show _ ∧ _ by simp [SrtG]), Below.refl _ _⟩
  case round =>
   obtain ⟨k0, hk, rfl, HF, HB⟩ := hrel
   by_cases hlt : k0 < n
   ·obtain ⟨b, off, rfl⟩ := HV.out.addr (by omega)
    obtain ⟨k, ta, rp, wd, hx, c0, c1, c2, c3⟩ := (HV.out.below HB.out).at k0 hlt
    have hk0 : (0 : Int) ≤ (k0 : Int) := by omega
    have hk1 : (k0 : Int) < (n : Int) := by omega
    have HX := hide hx
    clear hx
    go_upto_region 6 with fail
    have HB2 : Hid (Below w.heap.size w (wr.alloc (.cells #[.string k, .int .i64 ta, .int .i64 rp, .string wd] 111))) := HB.out.alloc HB.out.size _
    have d0 := cell_new wr #[.string k, .int .i64 ta, .int .i64 rp, .string wd] 111 _ rfl 0 _ rfl
    have d1 := cell_new wr #[.string k, .int .i64 ta, .int .i64 rp, .string wd] 111 _ rfl 1 _ rfl
    have d2 := cell_new wr #[.string k, .int .i64 ta, .int .i64 rp, .string wd] 111 _ rfl 2 _ rfl
    have d3 := cell_new wr #[.string k, .int .i64 ta, .int .i64 rp, .string wd] 111 _ rfl 3 _ rfl
    generalize hgb : wr.heap.size = gb at *
    have HV2 := hide (HV.out.below HB2.out)
    clear c0 c1 c2 c3 HB
    generalize wr.alloc (.cells #[.string k, .int .i64 ta, .int .i64 rp, .string wd] 111) = u at *
    clear hgb
    rcases hm : mayNt (k, ta, rp, wd) with _ | _
    ·have HM := hide hm
     have HNO : Hid (chkN s = 1) := chkN_no (mayG_no HX.out hm)
     clear hm
     refine wp_region_held_drew (S := fun W => Below u.heap.size u W) (by kernel_rfl) ((Below.refl _ u).drew) (fun hS0 => ?_)
     refine tkL 0 15 hS0 ?h ?_; case h => (intro W hW; have e0 := bcell hW d0; have e1 := bcell hW d1; have e2 := bcell hW d2; have e3 := bcell hW d3; clear hW; go_simp; try rfl); simp only [ly]
     refine wpAnyH_ready (rs := [1]) (by kernel_rfl) (by simp) ?_
     refine AllReadyH.cons rfl (fun K hK => ?_) AllReadyH.nil
     go_simp
     refine (note12_any k ta rp wd _).mono ?_
     rintro e w' ⟨rfl, hb⟩
     rw [show mayNt (k, ta, rp, wd) = false from HM.out]
     refine hK.out _ _ ?hs2 (fun hS1 => ?_)
     case hs2 => exact bel_next hS0 hb
     clear hK K hb
     try simp only [ly]
     refine tkJ 2 17 hS1 ?_; simp only [ly]
     refine tkJ 3 18 hS1 ?_; simp only [ly]
     refine tkM 4 19 hS1 ?_; simp only [ly]
     refine tkM 5 20 hS1 ?_; simp only [ly]
     refine tkM 6 21 hS1 ?_; simp only [ly]
     refine tkM 7 22 hS1 ?_; simp only [ly]
     refine tkM 8 23 hS1 ?_; simp only [ly]
     refine tkM 9 24 hS1 ?_; simp only [ly]
     refine tkM 10 25 hS1 ?_; simp only [ly]
     refine tkM 11 26 hS1 ?_; simp only [ly]
     refine tkM 12 27 hS1 ?_; simp only [ly]
     refine tkM 13 28 hS1 ?_; simp only [ly]
     refine tkM 14 29 hS1 ?_; simp only [ly]
     refine tkM 15 30 hS1 ?_; simp only [ly]
     refine tkM 16 31 hS1 ?_; simp only [ly]
     refine tkJ 17 32 hS1 ?_; simp only [ly]
     refine wpAnyH_done (by kernel_rfl) ?_ _
     go_wp2
     go_ret
     exact ⟨by simp [HNO.out], bel_next HB2.out hS1⟩
    ·have HM := hide hm
     clear hm
     rcases k0 with _ | j
     ·have HF2 : Hid ((s.take (0 + 1)).all mayNt = true ∧ SrtG kN (s.take (0 + 1))) := stepG HX.out HF.out HM.out (fun j c h => by omega)
      simp only [Nat.zero_add] at HF2
      refine wp_region_held_drew (S := fun W => Below u.heap.size u W) (by kernel_rfl) ((Below.refl _ u).drew) (fun hS0 => ?_)
      refine tkL 0 15 hS0 ?h ?_; case h => (intro W hW; have e0 := bcell hW d0; have e1 := bcell hW d1; have e2 := bcell hW d2; have e3 := bcell hW d3; clear hW; go_simp; try rfl); simp only [ly]
      refine wpAnyH_ready (rs := [1]) (by kernel_rfl) (by simp) ?_
      refine AllReadyH.cons rfl (fun K hK => ?_) AllReadyH.nil
      go_simp
      refine (note12_any k ta rp wd _).mono ?_
      rintro e w' ⟨rfl, hb⟩
      rw [show mayNt (k, ta, rp, wd) = true from HM.out]
      refine hK.out _ _ ?hs7 (fun hS1 => ?_)
      case hs7 => exact bel_next hS0 hb
      clear hK K hb
      try simp only [ly]
      refine tkJ 2 17 hS1 ?_; simp only [ly]
      refine tkJ 3 18 hS1 ?_; simp only [ly]
      refine tkJ 4 19 hS1 ?_; simp only [ly]
      refine tkJ 5 20 hS1 ?_; simp only [ly]
      refine tkJ 6 21 hS1 ?_; simp only [ly]
      refine tkM 7 22 hS1 ?_; simp only [ly]
      refine tkM 8 23 hS1 ?_; simp only [ly]
      refine tkM 9 24 hS1 ?_; simp only [ly]
      refine tkM 10 25 hS1 ?_; simp only [ly]
      refine tkM 11 26 hS1 ?_; simp only [ly]
      refine tkM 12 27 hS1 ?_; simp only [ly]
      refine tkM 13 28 hS1 ?_; simp only [ly]
      refine tkM 14 29 hS1 ?_; simp only [ly]
      refine tkM 15 30 hS1 ?_; simp only [ly]
      refine tkJ 16 31 hS1 ?_; simp only [ly]
      refine tkJ 17 32 hS1 ?_; simp only [ly]
      refine wpAnyH_done (by kernel_rfl) ?_ _
      go_wp2
      go_roundw
      case rel => exact ⟨1, by omega, by go_num, HF2, (show Hid _ from bel_next HB2.out hS1)⟩
      case measure => simp [intOf]; omega
     ·obtain ⟨kp, tp, pp, wp_, hp, p0, _, _, _⟩ := HV2.out.at j (by omega)
      have HP := hide hp
      clear hp
      have hwj := wrapT (show j ≤ 9223372036854775807 by omega)
      have hj0 : ((j : Int)) + 1 < (n : Int) := by omega
      have hj1 : (j : Int) < (n : Int) := by omega
      have hj2 : (0 : Int) ≤ (j : Int) := by omega
      rcases hl : Op.bytesLess kp.toList k.toList with _ | _
      ·have HNO : Hid (chkN s = 1) := chkN_no (mayG_less HP.out HX.out hl)
       refine wp_region_held_drew (S := fun W => Below u.heap.size u W) (by kernel_rfl) ((Below.refl _ u).drew) (fun hS0 => ?_)
       refine tkL 0 15 hS0 ?h ?_; case h => (intro W hW; have e0 := bcell hW d0; have e1 := bcell hW d1; have e2 := bcell hW d2; have e3 := bcell hW d3; have e4 := bcell hW p0; clear hW; go_simp; try rfl); simp only [ly]
       refine wpAnyH_ready (rs := [1]) (by kernel_rfl) (by simp) ?_
       refine AllReadyH.cons rfl (fun K hK => ?_) AllReadyH.nil
       go_simp
       refine (note12_any k ta rp wd _).mono ?_
       rintro e w' ⟨rfl, hb⟩
       rw [show mayNt (k, ta, rp, wd) = true from HM.out]
       refine hK.out _ _ ?hs34 (fun hS1 => ?_)
       case hs34 => exact bel_next hS0 hb
       clear hK K hb
       try simp only [ly]
       refine tkJ 2 17 hS1 ?_; simp only [ly]
       refine tkJ 3 18 hS1 ?_; simp only [ly]
       refine tkJ 4 19 hS1 ?_; simp only [ly]
       refine tkJ 5 20 hS1 ?_; simp only [ly]
       refine tkJ 6 21 hS1 ?_; simp only [ly]
       refine tkJ 7 22 hS1 ?_; simp only [ly]
       refine tkJ 8 23 hS1 ?_; simp only [ly]
       refine tkJ 9 24 hS1 ?_; simp only [ly]
       refine tkJ 10 25 hS1 ?_; simp only [ly]
       refine tkJ 11 26 hS1 ?_; simp only [ly]
       refine tkL 12 27 hS1 ?h ?_; case h => (intro W hW; have e0 := bcell hW d0; have e1 := bcell hW d1; have e2 := bcell hW d2; have e3 := bcell hW d3; have e4 := bcell hW p0; clear hW; go_simp; try rfl); simp only [ly]
       refine tkJ 13 28 hS1 ?_; simp only [ly]
       refine tkL 14 29 hS1 ?h ?_; case h => (intro W hW; have e0 := bcell hW d0; have e1 := bcell hW d1; have e2 := bcell hW d2; have e3 := bcell hW d3; have e4 := bcell hW p0; clear hW; go_simp; try rfl); simp only [ly]
       refine tkJ 15 30 hS1 ?_; simp only [ly]
       refine tkJ 16 31 hS1 ?_; simp only [ly]
       refine tkJ 17 32 hS1 ?_; simp only [ly]
       refine wpAnyH_done (by kernel_rfl) ?_ _
       go_wp2
       go_ret
       exact ⟨by simp [HNO.out], bel_next HB2.out hS1⟩
      ·have HF2 : Hid ((s.take (j + 1 + 1)).all mayNt = true ∧ SrtG kN (s.take (j + 1 + 1))) := stepGS HX.out HP.out HF.out HM.out hl
       refine wp_region_held_drew (S := fun W => Below u.heap.size u W) (by kernel_rfl) ((Below.refl _ u).drew) (fun hS0 => ?_)
       refine tkL 0 15 hS0 ?h ?_; case h => (intro W hW; have e0 := bcell hW d0; have e1 := bcell hW d1; have e2 := bcell hW d2; have e3 := bcell hW d3; have e4 := bcell hW p0; clear hW; go_simp; try rfl); simp only [ly]
       refine wpAnyH_ready (rs := [1]) (by kernel_rfl) (by simp) ?_
       refine AllReadyH.cons rfl (fun K hK => ?_) AllReadyH.nil
       go_simp
       refine (note12_any k ta rp wd _).mono ?_
       rintro e w' ⟨rfl, hb⟩
       rw [show mayNt (k, ta, rp, wd) = true from HM.out]
       refine hK.out _ _ ?hs16 (fun hS1 => ?_)
       case hs16 => exact bel_next hS0 hb
       clear hK K hb
       try simp only [ly]
       refine tkJ 2 17 hS1 ?_; simp only [ly]
       refine tkJ 3 18 hS1 ?_; simp only [ly]
       refine tkJ 4 19 hS1 ?_; simp only [ly]
       refine tkJ 5 20 hS1 ?_; simp only [ly]
       refine tkJ 6 21 hS1 ?_; simp only [ly]
       refine tkJ 7 22 hS1 ?_; simp only [ly]
       refine tkJ 8 23 hS1 ?_; simp only [ly]
       refine tkJ 9 24 hS1 ?_; simp only [ly]
       refine tkJ 10 25 hS1 ?_; simp only [ly]
       refine tkJ 11 26 hS1 ?_; simp only [ly]
       refine tkL 12 27 hS1 ?h ?_; case h => (intro W hW; have e0 := bcell hW d0; have e1 := bcell hW d1; have e2 := bcell hW d2; have e3 := bcell hW d3; have e4 := bcell hW p0; clear hW; go_simp; try rfl); simp only [ly]
       refine tkJ 13 28 hS1 ?_; simp only [ly]
       refine tkL 14 29 hS1 ?h ?_; case h => (intro W hW; have e0 := bcell hW d0; have e1 := bcell hW d1; have e2 := bcell hW d2; have e3 := bcell hW d3; have e4 := bcell hW p0; clear hW; go_simp; try rfl); simp only [ly]
       refine tkJ 15 30 hS1 ?_; simp only [ly]
       refine tkJ 16 31 hS1 ?_; simp only [ly]
       refine tkJ 17 32 hS1 ?_; simp only [ly]
       refine wpAnyH_done (by kernel_rfl) ?_ _
       go_wp2
       go_roundw
       case rel => exact ⟨j + 1 + 1, by omega, by go_num, HF2, (show Hid _ from bel_next HB2.out hS1)⟩
       case measure => simp [intOf]; omega
   ·obtain rfl : k0 = n := by omega
    have HR : Hid (chkN s = 0) := by
     have h := HF.out
     rw [← HLEN.out, List.take_length] at h
     refine chkN_yes (mayG_iff.2 ⟨by simpa using h.1, h.2, by rw [HLEN.out]; omega⟩)
    clear HF
    go_wp2
    go_ret
    exact ⟨by simp [HR.out], HB.out⟩
end Go.Proofs.YtkbbegbpkndebaaGreat

