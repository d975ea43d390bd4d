/- Texts of this claim, joined: GE3. -/
import Derived.Test.YtkbbegbpkndebaaGreatJ12
/- The document's Right and Same of layer 11. -/
namespace Go.Proofs.YtkbbegbpkndebaaGreat
open Go.RowKit Go.Lib
set_option linter.unusedVariables false
theorem AC.five {w : World} {b off n : Nat} {s : List Ac} (h : AC w (some ⟨b, off, none⟩) n s) (i : Nat) (hi : i < n) : ∃ (k : ByteArray) (g0 g1 g2 g3 g4 : Int), s[i]? = some (k, [g0, g1, g2, g3, g4]) ∧ w.cell? ⟨b, off + i * 6, none⟩ = some (.string k) ∧ w.cell? ⟨b, off + i * 6 + 1, none⟩ = some (.int .i64 g0) ∧ w.cell? ⟨b, off + i * 6 + 2, none⟩ = some (.int .i64 g1) ∧ w.cell? ⟨b, off + i * 6 + 3, none⟩ = some (.int .i64 g2) ∧ w.cell? ⟨b, off + i * 6 + 4, none⟩ = some (.int .i64 g3) ∧ w.cell? ⟨b, off + i * 6 + 5, none⟩ = some (.int .i64 g4) := by
 obtain ⟨k, g, hx, hg, c0, cj⟩ := h.at i hi
 match g, hg with
 | [g0, g1, g2, g3, g4], _ => exact ⟨k, g0, g1, g2, g3, g4, hx, c0, cj 0 (by omega), cj 1 (by omega), cj 2 (by omega), cj 3 (by omega), cj 4 (by omega)⟩
theorem five_at {w : World} {b : Nat} {g0 g1 g2 g3 g4 : Int} (h0 : w.cell? ⟨b, 1, none⟩ = some (.int .i64 g0)) (h1 : w.cell? ⟨b, 2, none⟩ = some (.int .i64 g1)) (h2 : w.cell? ⟨b, 3, none⟩ = some (.int .i64 g2)) (h3 : w.cell? ⟨b, 4, none⟩ = some (.int .i64 g3)) (h4 : w.cell? ⟨b, 5, none⟩ = some (.int .i64 g4)) : ∀ j, j < 5 → w.cell? ⟨b, 1 + j, none⟩ = some (.int .i64 (atH [g0, g1, g2, g3, g4] j)) := by
 intro j hj
 rcases (by omega : j = 0 ∨ j = 1 ∨ j = 2 ∨ j = 3 ∨ j = 4) with rfl | rfl | rfl | rfl | rfl
 ·exact h0
 ·exact h1
 ·exact h2
 ·exact h3
 ·exact h4
theorem take_at {g : List Int} {j : Nat} (h : j < g.length) : g.take (j + 1) = g.take j ++ [atH g j] := by
 rw [List.take_succ_eq_append_getElem h]
 unfold atH
 rw [List.getD_eq_getElem?_getD, List.getElem?_eq_getElem h]
 rfl
theorem all_step {g : List Int} {j : Nat} (h : j < g.length) (ha : (g.take j).all in40 = true) (hb : -1099511627776 ≤ atH g j ∧ atH g j ≤ 1099511627776) : (g.take (j + 1)).all in40 = true := by
 rw [take_at h, List.all_append, ha, Bool.true_and]
 simp only [List.all_cons, List.all_nil, Bool.and_true]
 exact decide_eq_true hb
theorem any_step {g : List Int} {j : Nat} {b : Bool} (h : j < g.length) (ha : (g.take j).any nzA = b) : (g.take (j + 1)).any nzA = (b || decide (atH g j ≠ 0)) := by
 rw [take_at h, List.any_append, ha]
 simp [nzA]
theorem mayAc_big {k : ByteArray} {g : List Int} {j : Nat} (h : ¬ (-1099511627776 ≤ atH g j ∧ atH g j ≤ 1099511627776)) : mayAc (k, g) = false := by
 rcases hb : mayAc (k, g) with _ | _
 ·rfl
 ·exact absurd (bd_of (mayAc_iff.1 hb).2.2.1 j) h
theorem mayAc_key {k : ByteArray} {g : List Int} (h : mayK k = false) : mayAc (k, g) = false := by
 unfold mayAc
 simp only
 rw [h]
 rfl
set_option maxHeartbeats 8000000 in
theorem Right11_ref (a : Option Addr) (n cap : Nat) (s : List Ac) (w : World) (hA : AC w a n s) : Calls Tryz.prog 42 #[.slice a n cap] w fun e w' => e = .returned (.bool (mayA s)) ∧ Below w.heap.size w w' := by
 have HV := hide hA
 have hmx := hA.1.2.1
 have HLEN := hide hA.1.1
 unfold maxLen at hmx
 clear hA
 go_enter Tryz.func42, Tryz.ntmps42
 go_wp2
 go_loopw [3] (fun i wr => ∃ k : Nat, k ≤ n ∧ i = .int .i64 k ∧ Hid ((s.take k).all mayAc = true ∧ SrtG kA (s.take k)) ∧ Hid (Below w.heap.size w wr)) (fun i _ => n - (intOf i).toNat)
 case atStart => exact ⟨0, by omega, rfl, (show _ ∧ _ by simp [SrtG]), Below.refl _ _⟩
 case round =>
  obtain ⟨k0, hk, rfl, HF, HB⟩ := hrel
  by_cases hlt : k0 < n
  ·obtain ⟨b, off, rfl⟩ := HV.out.addr (by omega)
   obtain ⟨k, g0, g1, g2, g3, g4, hx, c0, c1, c2, c3, c4, c5⟩ := (HV.out.below HB.out).five k0 hlt
   have hk0 : (0 : Int) ≤ (k0 : Int) := by omega
   have hk1 : (k0 : Int) < (n : Int) := by omega
   have HX := hide hx
   clear hx
   go_upto_region 5 with fail
   have HB2 : Hid (Below w.heap.size w (wr.alloc (.cells #[.string k, .int .i64 g0, .int .i64 g1, .int .i64 g2, .int .i64 g3, .int .i64 g4] 134))) := HB.out.alloc HB.out.size _
   have d0 := cell_new wr #[.string k, .int .i64 g0, .int .i64 g1, .int .i64 g2, .int .i64 g3, .int .i64 g4] 134 _ rfl 0 _ rfl
   have d1 := cell_new wr #[.string k, .int .i64 g0, .int .i64 g1, .int .i64 g2, .int .i64 g3, .int .i64 g4] 134 _ rfl 1 _ rfl
   have d2 := cell_new wr #[.string k, .int .i64 g0, .int .i64 g1, .int .i64 g2, .int .i64 g3, .int .i64 g4] 134 _ rfl 2 _ rfl
   have d3 := cell_new wr #[.string k, .int .i64 g0, .int .i64 g1, .int .i64 g2, .int .i64 g3, .int .i64 g4] 134 _ rfl 3 _ rfl
   have d4 := cell_new wr #[.string k, .int .i64 g0, .int .i64 g1, .int .i64 g2, .int .i64 g3, .int .i64 g4] 134 _ rfl 4 _ rfl
   have d5 := cell_new wr #[.string k, .int .i64 g0, .int .i64 g1, .int .i64 g2, .int .i64 g3, .int .i64 g4] 134 _ rfl 5 _ rfl
   generalize hgb : wr.heap.size = gb at *
   have HV2 := hide (HV.out.below HB2.out)
   clear c0 c1 c2 c3 c4 c5 HB
   generalize wr.alloc (.cells #[.string k, .int .i64 g0, .int .i64 g1, .int .i64 g2, .int .i64 g3, .int .i64 g4] 134) = u at *
   clear hgb
   by_cases k1 : k.size = 0
   ·have HNO : Hid (mayA s = false) := mayG_no HX.out (mayAc_key (by simp [mayK, k1]))
    have k2 := eqT k1
    subst k2
    clear k1
    refine wp_region_held_drew (S := fun W => Below u.heap.size u W) (by kernel_rfl) ((Below.refl _ u).drew) (fun hS0 => ?_)
    refine tkJ 0 17 hS0 ?_; simp only [ly]
    refine tkL 1 18 hS0 ?h ?_; case h => (intro W hW; have e0 := bcell hW d0; clear hW; go_simp; try rfl); simp only [ly]
    refine tkJ 2 19 hS0 ?_; simp only [ly]
    refine tkJ 3 20 hS0 ?_; simp only [ly]
    refine tkM 4 21 hS0 ?_; simp only [ly]
    refine tkM 5 22 hS0 ?_; simp only [ly]
    refine tkM 6 23 hS0 ?_; simp only [ly]
    refine tkM 7 24 hS0 ?_; simp only [ly]
    refine tkJ 8 25 hS0 ?_; simp only [ly]
    refine tkJ 9 26 hS0 ?_; simp only [ly]
    refine tkM 10 27 hS0 ?_; simp only [ly]
    refine tkM 11 28 hS0 ?_; simp only [ly]
    refine tkM 12 29 hS0 ?_; simp only [ly]
    refine tkM 13 30 hS0 ?_; simp only [ly]
    refine tkM 14 31 hS0 ?_; simp only [ly]
    refine tkM 15 32 hS0 ?_; simp only [ly]
    refine tkM 16 33 hS0 ?_; simp only [ly]
    refine tkM 17 34 hS0 ?_; simp only [ly]
    refine tkM 18 35 hS0 ?_; simp only [ly]
    refine tkM 19 36 hS0 ?_; simp only [ly]
    refine tkM 20 37 hS0 ?_; simp only [ly]
    refine tkM 21 38 hS0 ?_; simp only [ly]
    refine tkM 22 39 hS0 ?_; simp only [ly]
    refine tkJ 23 40 hS0 ?_; simp only [ly]
    refine wpAnyH_done (by kernel_rfl) ?_ _
    go_wp2
    go_ret
    exact ⟨by rw [HNO.out]; rfl, bel_next HB2.out hS0⟩
   ·obtain ⟨k2, k3, k4⟩ := neT k1
    by_cases k5 : (k.size : Int) ≤ 32
    ·have k7 : decide ((32 : Int) < (k.size : Int)) = false := decide_eq_false (by omega)
     have HK : Hid (mayK k = true) := (show _ = _ by simp [mayK]; omega)
     rcases k0 with _ | j
     ·skip
      refine wp_region_held_drew (S := fun W => Below u.heap.size u W) (by kernel_rfl) ((Below.refl _ u).drew) (fun hS0 => ?_)
      refine tkJ 0 17 hS0 ?_; simp only [ly]
      refine tkL 1 18 hS0 ?h ?_; case h => (intro W hW; have e0 := bcell hW d0; clear hW; go_simp; try rfl); simp only [ly]
      refine tkJ 2 19 hS0 ?_; simp only [ly]
      refine tkJ 3 20 hS0 ?_; simp only [ly]
      refine tkJ 4 21 hS0 ?_; simp only [ly]
      refine tkL 5 22 hS0 ?h ?_; case h => (intro W hW; have e0 := bcell hW d0; clear hW; go_simp; try rfl); simp only [ly]
      refine tkJ 6 23 hS0 ?_; simp only [ly]
      refine tkJ 7 24 hS0 ?_; simp only [ly]
      refine tkJ 8 25 hS0 ?_; simp only [ly]
      refine tkJ 9 26 hS0 ?_; simp only [ly]
      refine tkJ 10 27 hS0 ?_; simp only [ly]
      refine tkJ 11 28 hS0 ?_; simp only [ly]
      refine tkJ 12 29 hS0 ?_; simp only [ly]
      refine tkM 13 30 hS0 ?_; simp only [ly]
      refine tkM 14 31 hS0 ?_; simp only [ly]
      refine tkM 15 32 hS0 ?_; simp only [ly]
      refine tkM 16 33 hS0 ?_; simp only [ly]
      refine tkM 17 34 hS0 ?_; simp only [ly]
      refine tkM 18 35 hS0 ?_; simp only [ly]
      refine tkM 19 36 hS0 ?_; simp only [ly]
      refine tkM 20 37 hS0 ?_; simp only [ly]
      refine tkM 21 38 hS0 ?_; simp only [ly]
      refine tkJ 22 39 hS0 ?_; simp only [ly]
      refine tkJ 23 40 hS0 ?_; simp only [ly]
      refine wpAnyH_done (by kernel_rfl) ?_ _
      have HB3 := hide (bel_next HB2.out hS0)
      have e1 := bcell hS0 d1
      have e2 := bcell hS0 d2
      have e3 := bcell hS0 d3
      have e4 := bcell hS0 d4
      have e5 := bcell hS0 d5
      have HE := hide (five_at e1 e2 e3 e4 e5)
      clear e1 e2 e3 e4 e5 d0 d1 d2 d3 d4 d5 HB2 hS0
      generalize hg : [g0, g1, g2, g3, g4] = g at *
      have hg5 : g.length = 5 := by rw [← hg]; rfl
      clear hg
      go_wp2
      go_loopw [5, 6] (fun vb vi wx => ∃ (j : Nat) (sb : Bool), j ≤ 5 ∧ vi = .int .i64 j ∧ vb = .bool sb ∧ Hid ((g.take j).any nzA = sb) ∧ Hid ((g.take j).all in40 = true) ∧ Hid (∀ q, q < 5 → wx.cell? ⟨gb, 1 + q, none⟩ = some (.int .i64 (atH g q))) ∧ Hid (Below w.heap.size w wx)) (fun _ vi _ => 5 - (intOf vi).toNat)
      case atStart => exact ⟨0, false, by omega, rfl, rfl, rfl, rfl, HE, HB3⟩
      case round =>
       clear HE HB3
       obtain ⟨j, sb, hj, rfl, rfl, HSM, HI, HE, HB3⟩ := hrel
       by_cases hj5 : j < 5
       ·have e0 := HE.out j hj5
        have hj0 : (0 : Int) ≤ (j : Int) := by omega
        have hj1 : (j : Int) < 5 := by omega
        by_cases m3 : atH g j ≤ 1099511627776
        ·have m5 : ¬ (1099511627776 < atH g j) := by omega
         by_cases m4 : -1099511627776 ≤ atH g j
         ·have m6 : ¬ (atH g j < -1099511627776) := by omega
          have HI2 : Hid ((g.take (j + 1)).all in40 = true) := all_step (by omega) HI.out ⟨m4, m3⟩
          have HS2 := hide (any_step (by omega : j < g.length) HSM.out)
          cases sb
          ·by_cases m1 : atH g j = 0
           ·have m2 : (atH g j == 0) = true := by rw [m1]; rfl
            have HS3 : Hid ((g.take (j + 1)).any nzA = false) := by unfold Hid; rw [HS2.out]; simp [m1]
            clear HS2 m1
            go_wp2
            go_roundw
            case rel => exact ⟨j + 1, false, by omega, by go_num, (by first | rfl | (unfold bne; rw [m2]; rfl)), HS3, HI2, HE, HB3⟩
            case measure => simp [intOf]; omega
           ·have m2 : (atH g j == 0) = false := by rw [beq_eq_false_iff_ne]; exact m1
            have HS3 : Hid ((g.take (j + 1)).any nzA = true) := by unfold Hid; rw [HS2.out]; simp [m1]
            clear HS2
            go_wp2
            go_roundw
            case rel => exact ⟨j + 1, true, by omega, by go_num, (by first | rfl | (unfold bne; rw [m2]; rfl)), HS3, HI2, HE, HB3⟩
            case measure => simp [intOf]; omega
          ·have HS3 : Hid ((g.take (j + 1)).any nzA = true) := by unfold Hid; rw [HS2.out]; simp
           clear HS2
           go_wp2
           go_roundw
           case rel => exact ⟨j + 1, true, by omega, by go_num, (by first | rfl | (unfold bne; rw [m2]; rfl)), HS3, HI2, HE, HB3⟩
           case measure => simp [intOf]; omega
         ·have m6 : atH g j < -1099511627776 := by omega
          have HNO : Hid (mayA s = false) := mayG_no HX.out (mayAc_big (j := j) (by omega))
          go_wp2
          go_ret
          exact ⟨by rw [HNO.out]; rfl, HB3.out⟩
        ·have m5 : 1099511627776 < atH g j := by omega
         have HNO : Hid (mayA s = false) := mayG_no HX.out (mayAc_big (j := j) (by omega))
         go_wp2
         go_ret
         exact ⟨by rw [HNO.out]; rfl, HB3.out⟩
       ·obtain rfl : j = 5 := by omega
        have HS4 := HSM.out
        have HI4 := HI.out
        rw [List.take_of_length_le (by omega)] at HS4 HI4
        cases sb
        ·have HNO : Hid (mayA s = false) := mayG_no HX.out (by unfold mayAc; simp only; rw [HS4, Bool.and_false])
         clear HS4 HI4
         go_wp2
         go_ret
         exact ⟨by rw [HNO.out]; rfl, HB3.out⟩
        ·have HMC : Hid (mayAc (k, g) = true) := mayAc_iff.2 ⟨HK.out, hg5, HI4, HS4⟩
         have HF2 := hide (stepG HX.out HF.out HMC.out (fun j c h => by omega))
         clear HS4 HI4
         go_wp2
         go_roundw
         case rel => exact ⟨0 + 1, by omega, by go_num, HF2, HB3⟩
         case measure => simp [intOf]; omega
     ·obtain ⟨kp, gp, hp, _, p0, _⟩ := HV2.out.at j (by omega)
      have HP := hide hp
      clear hp
      have hwj := wrapT (show j ≤ 9223372036854775807 by omega)
      have hj0 : ((j : Int)) + 1 < (n : Int) := by omega
      have hj1 : (j : Int) < (n : Int) := by omega
      have hj2 : (0 : Int) ≤ (j : Int) := by omega
      rcases hl : Op.bytesLess kp.toList k.toList with _ | _
      ·have HNO : Hid (mayA s = false) := mayG_less HP.out HX.out hl
       refine wp_region_held_drew (S := fun W => Below u.heap.size u W) (by kernel_rfl) ((Below.refl _ u).drew) (fun hS0 => ?_)
       refine tkJ 0 17 hS0 ?_; simp only [ly]
       refine tkL 1 18 hS0 ?h ?_; case h => (intro W hW; have e0 := bcell hW d0; have e1 := bcell hW p0; clear hW; go_simp; try rfl); simp only [ly]
       refine tkJ 2 19 hS0 ?_; simp only [ly]
       refine tkJ 3 20 hS0 ?_; simp only [ly]
       refine tkJ 4 21 hS0 ?_; simp only [ly]
       refine tkL 5 22 hS0 ?h ?_; case h => (intro W hW; have e0 := bcell hW d0; have e1 := bcell hW p0; clear hW; go_simp; try rfl); simp only [ly]
       refine tkJ 6 23 hS0 ?_; simp only [ly]
       refine tkJ 7 24 hS0 ?_; simp only [ly]
       refine tkJ 8 25 hS0 ?_; simp only [ly]
       refine tkJ 9 26 hS0 ?_; simp only [ly]
       refine tkJ 10 27 hS0 ?_; simp only [ly]
       refine tkJ 11 28 hS0 ?_; simp only [ly]
       refine tkJ 12 29 hS0 ?_; simp only [ly]
       refine tkJ 13 30 hS0 ?_; simp only [ly]
       refine tkJ 14 31 hS0 ?_; simp only [ly]
       refine tkJ 15 32 hS0 ?_; simp only [ly]
       refine tkJ 16 33 hS0 ?_; simp only [ly]
       refine tkJ 17 34 hS0 ?_; simp only [ly]
       refine tkL 18 35 hS0 ?h ?_; case h => (intro W hW; have e0 := bcell hW d0; have e1 := bcell hW p0; clear hW; go_simp; try rfl); simp only [ly]
       refine tkJ 19 36 hS0 ?_; simp only [ly]
       refine tkL 20 37 hS0 ?h ?_; case h => (intro W hW; have e0 := bcell hW d0; have e1 := bcell hW p0; clear hW; go_simp; try rfl); simp only [ly]
       refine tkJ 21 38 hS0 ?_; simp only [ly]
       refine tkJ 22 39 hS0 ?_; simp only [ly]
       refine tkJ 23 40 hS0 ?_; simp only [ly]
       refine wpAnyH_done (by kernel_rfl) ?_ _
       go_wp2
       go_ret
       exact ⟨by rw [HNO.out]; rfl, bel_next HB2.out hS0⟩
      ·skip
       refine wp_region_held_drew (S := fun W => Below u.heap.size u W) (by kernel_rfl) ((Below.refl _ u).drew) (fun hS0 => ?_)
       refine tkJ 0 17 hS0 ?_; simp only [ly]
       refine tkL 1 18 hS0 ?h ?_; case h => (intro W hW; have e0 := bcell hW d0; have e1 := bcell hW p0; clear hW; go_simp; try rfl); simp only [ly]
       refine tkJ 2 19 hS0 ?_; simp only [ly]
       refine tkJ 3 20 hS0 ?_; simp only [ly]
       refine tkJ 4 21 hS0 ?_; simp only [ly]
       refine tkL 5 22 hS0 ?h ?_; case h => (intro W hW; have e0 := bcell hW d0; have e1 := bcell hW p0; clear hW; go_simp; try rfl); simp only [ly]
       refine tkJ 6 23 hS0 ?_; simp only [ly]
       refine tkJ 7 24 hS0 ?_; simp only [ly]
       refine tkJ 8 25 hS0 ?_; simp only [ly]
       refine tkJ 9 26 hS0 ?_; simp only [ly]
       refine tkJ 10 27 hS0 ?_; simp only [ly]
       refine tkJ 11 28 hS0 ?_; simp only [ly]
       refine tkJ 12 29 hS0 ?_; simp only [ly]
       refine tkJ 13 30 hS0 ?_; simp only [ly]
       refine tkJ 14 31 hS0 ?_; simp only [ly]
       refine tkJ 15 32 hS0 ?_; simp only [ly]
       refine tkJ 16 33 hS0 ?_; simp only [ly]
       refine tkJ 17 34 hS0 ?_; simp only [ly]
       refine tkL 18 35 hS0 ?h ?_; case h => (intro W hW; have e0 := bcell hW d0; have e1 := bcell hW p0; clear hW; go_simp; try rfl); simp only [ly]
       refine tkJ 19 36 hS0 ?_; simp only [ly]
       refine tkL 20 37 hS0 ?h ?_; case h => (intro W hW; have e0 := bcell hW d0; have e1 := bcell hW p0; clear hW; go_simp; try rfl); simp only [ly]
       refine tkJ 21 38 hS0 ?_; simp only [ly]
       refine tkJ 22 39 hS0 ?_; simp only [ly]
       refine tkJ 23 40 hS0 ?_; simp only [ly]
       refine wpAnyH_done (by kernel_rfl) ?_ _
       have HB3 := hide (bel_next HB2.out hS0)
       have e1 := bcell hS0 d1
       have e2 := bcell hS0 d2
       have e3 := bcell hS0 d3
       have e4 := bcell hS0 d4
       have e5 := bcell hS0 d5
       have HE := hide (five_at e1 e2 e3 e4 e5)
       clear e1 e2 e3 e4 e5 d0 d1 d2 d3 d4 d5 HB2 hS0
       generalize hg : [g0, g1, g2, g3, g4] = g at *
       have hg5 : g.length = 5 := by rw [← hg]; rfl
       clear hg
       go_wp2
       go_loopw [5, 6] (fun vb vi wx => ∃ (jj : Nat) (sb : Bool), jj ≤ 5 ∧ vi = .int .i64 jj ∧ vb = .bool sb ∧ Hid ((g.take jj).any nzA = sb) ∧ Hid ((g.take jj).all in40 = true) ∧ Hid (∀ q, q < 5 → wx.cell? ⟨gb, 1 + q, none⟩ = some (.int .i64 (atH g q))) ∧ Hid (Below w.heap.size w wx)) (fun _ vi _ => 5 - (intOf vi).toNat)
       case atStart => exact ⟨0, false, by omega, rfl, rfl, rfl, rfl, HE, HB3⟩
       case round =>
        clear HE HB3
        obtain ⟨jj, sb, hj, rfl, rfl, HSM, HI, HE, HB3⟩ := hrel
        by_cases hj5 : jj < 5
        ·have e0 := HE.out jj hj5
         have hj0 : (0 : Int) ≤ (jj : Int) := by omega
         have hj1 : (jj : Int) < 5 := by omega
         by_cases m3 : atH g jj ≤ 1099511627776
         ·have m5 : ¬ (1099511627776 < atH g jj) := by omega
          by_cases m4 : -1099511627776 ≤ atH g jj
          ·have m6 : ¬ (atH g jj < -1099511627776) := by omega
           have HI2 : Hid ((g.take (jj + 1)).all in40 = true) := all_step (by omega) HI.out ⟨m4, m3⟩
           have HS2 := hide (any_step (by omega : jj < g.length) HSM.out)
           cases sb
           ·by_cases m1 : atH g jj = 0
            ·have m2 : (atH g jj == 0) = true := by rw [m1]; rfl
             have HS3 : Hid ((g.take (jj + 1)).any nzA = false) := by unfold Hid; rw [HS2.out]; simp [m1]
             clear HS2 m1
             go_wp2
             go_roundw
             case rel => exact ⟨jj + 1, false, by omega, by go_num, (by first | rfl | (unfold bne; rw [m2]; rfl)), HS3, HI2, HE, HB3⟩
             case measure => simp [intOf]; omega
            ·have m2 : (atH g jj == 0) = false := by rw [beq_eq_false_iff_ne]; exact m1
             have HS3 : Hid ((g.take (jj + 1)).any nzA = true) := by unfold Hid; rw [HS2.out]; simp [m1]
             clear HS2
             go_wp2
             go_roundw
             case rel => exact ⟨jj + 1, true, by omega, by go_num, (by first | rfl | (unfold bne; rw [m2]; rfl)), HS3, HI2, HE, HB3⟩
             case measure => simp [intOf]; omega
           ·have HS3 : Hid ((g.take (jj + 1)).any nzA = true) := by unfold Hid; rw [HS2.out]; simp
            clear HS2
            go_wp2
            go_roundw
            case rel => exact ⟨jj + 1, true, by omega, by go_num, (by first | rfl | (unfold bne; rw [m2]; rfl)), HS3, HI2, HE, HB3⟩
            case measure => simp [intOf]; omega
          ·have m6 : atH g jj < -1099511627776 := by omega
           have HNO : Hid (mayA s = false) := mayG_no HX.out (mayAc_big (j := jj) (by omega))
           go_wp2
           go_ret
           exact ⟨by rw [HNO.out]; rfl, HB3.out⟩
         ·have m5 : 1099511627776 < atH g jj := by omega
          have HNO : Hid (mayA s = false) := mayG_no HX.out (mayAc_big (j := jj) (by omega))
          go_wp2
          go_ret
          exact ⟨by rw [HNO.out]; rfl, HB3.out⟩
        ·obtain rfl : jj = 5 := by omega
         have HS4 := HSM.out
         have HI4 := HI.out
         rw [List.take_of_length_le (by omega)] at HS4 HI4
         cases sb
         ·have HNO : Hid (mayA s = false) := mayG_no HX.out (by unfold mayAc; simp only; rw [HS4, Bool.and_false])
          clear HS4 HI4
          go_wp2
          go_ret
          exact ⟨by rw [HNO.out]; rfl, HB3.out⟩
         ·have HMC : Hid (mayAc (k, g) = true) := mayAc_iff.2 ⟨HK.out, hg5, HI4, HS4⟩
          have HF2 := hide (stepGS HX.out HP.out HF.out HMC.out hl)
          clear HS4 HI4
          go_wp2
          go_roundw
          case rel => exact ⟨j + 1 + 1, by omega, by go_num, HF2, HB3⟩
          case measure => simp [intOf]; omega
    ·have k6 : (32 : Int) < (k.size : Int) := by omega
     have k7 : decide ((32 : Int) < (k.size : Int)) = true := decide_eq_true k6
     have HNO : Hid (mayA s = false) := mayG_no HX.out (mayAc_key (by
      rcases hb : mayK k with _ | _
      ·rfl
      ·simp [mayK] at hb
       omega))
     refine wp_region_held_drew (S := fun W => Below u.heap.size u W) (by kernel_rfl) ((Below.refl _ u).drew) (fun hS0 => ?_)
     refine tkJ 0 17 hS0 ?_; simp only [ly]
     refine tkL 1 18 hS0 ?h ?_; case h => (intro W hW; have e0 := bcell hW d0; clear hW; go_simp; try rfl); simp only [ly]
     refine tkJ 2 19 hS0 ?_; simp only [ly]
     refine tkJ 3 20 hS0 ?_; simp only [ly]
     refine tkJ 4 21 hS0 ?_; simp only [ly]
     refine tkL 5 22 hS0 ?h ?_; case h => (intro W hW; have e0 := bcell hW d0; clear hW; go_simp; try rfl); simp only [ly]
     refine tkJ 6 23 hS0 ?_; simp only [ly]
     refine tkJ 7 24 hS0 ?_; simp only [ly]
     refine tkJ 8 25 hS0 ?_; simp only [ly]
     refine tkJ 9 26 hS0 ?_; simp only [ly]
     refine tkM 10 27 hS0 ?_; simp only [ly]
     refine tkM 11 28 hS0 ?_; simp only [ly]
     refine tkM 12 29 hS0 ?_; simp only [ly]
     refine tkM 13 30 hS0 ?_; simp only [ly]
     refine tkM 14 31 hS0 ?_; simp only [ly]
     refine tkM 15 32 hS0 ?_; simp only [ly]
     refine tkM 16 33 hS0 ?_; simp only [ly]
     refine tkM 17 34 hS0 ?_; simp only [ly]
     refine tkM 18 35 hS0 ?_; simp only [ly]
     refine tkM 19 36 hS0 ?_; simp only [ly]
     refine tkM 20 37 hS0 ?_; simp only [ly]
     refine tkM 21 38 hS0 ?_; simp only [ly]
     refine tkM 22 39 hS0 ?_; simp only [ly]
     refine tkJ 23 40 hS0 ?_; simp only [ly]
     refine wpAnyH_done (by kernel_rfl) ?_ _
     go_wp2
     go_ret
     exact ⟨by rw [HNO.out]; rfl, bel_next HB2.out hS0⟩
  ·obtain rfl : k0 = n := by omega
   have HR : Hid (mayA s = decide (k0 ≤ 4000)) := by
    have h := HF.out
    rw [← HLEN.out, List.take_length] at h
    unfold Hid
    rw [Bool.eq_iff_iff, mayG_iff, decide_eq_true_iff, HLEN.out]
    exact ⟨fun q => q.2.2, fun q => ⟨by simpa using h.1, h.2, q⟩⟩
   clear HF
   by_cases h4 : (k0 : Int) ≤ 4000
   ·go_wp2
    go_ret
    exact ⟨by rw [HR.out, decide_eq_true (by omega)]; rfl, HB.out⟩
   ·go_wp2
    go_ret
    exact ⟨by rw [HR.out, decide_eq_false (by omega)]; rfl, HB.out⟩
theorem part3 (w : World) (xs : Array Value) (j : Nat) (v : Value) (hx : xs[j]? = some v) : (part 3 xs j).run Tryz.prog w = .ok v w := by
 go_simp
theorem eql5 (d : Nat) (g0 g1 g2 g3 g4 h0 h1 h2 h3 h4 : Int) (w : World) : (Op.equalIn (d + 1 + 1) 132 (.agg #[.int .i64 g0, .int .i64 g1, .int .i64 g2, .int .i64 g3, .int .i64 g4]) (.agg #[.int .i64 h0, .int .i64 h1, .int .i64 h2, .int .i64 h3, .int .i64 h4])).run Tryz.prog w = .ok (g0 == h0 && (g1 == h1 && (g2 == h2 && (g3 == h3 && g4 == h4)))) w := by
 have hu : Tryz.prog.underlying 132 = some (.array 5 3) := by kernel_rfl
 have hi3 : Tryz.prog.underlying 3 = some (.int .i64) := by kernel_rfl
 have hs : (sizeOf 3).run Tryz.prog w = .ok 1 w := by kernel_rfl
 have he := fun a b => run_equalIn_int (P := Tryz.prog) w d 3 .i64 .i64 a b hi3
 rw [Op.equalIn]
 simp only [Sem.run_bind, run_underlying hu, Result.andThen_ok, hs]
 simp only [Std.Legacy.Range.forIn_eq_forIn_range', Std.Legacy.Range.size, Nat.sub_zero, Nat.add_one_sub_one, Nat.div_one]
 simp only [List.range', List.forIn_cons, Sem.run_bind, Nat.zero_add, Nat.mul_one, Nat.reduceAdd]
 rw [part3 w _ _ (.int .i64 g0) rfl]
 simp only [Result.andThen_ok]
 rw [part3 w _ _ (.int .i64 h0) rfl]
 simp only [Result.andThen_ok]
 rw [he]
 simp only [Result.andThen_ok]
 rcases e0 : (g0 == h0) with _ | _
 ·simp
 simp only [Bool.not_true, Bool.false_eq_true, if_false, Sem.run_pure, Result.andThen_ok, Sem.run_bind]
 rw [part3 w _ _ (.int .i64 g1) rfl]
 simp only [Result.andThen_ok]
 rw [part3 w _ _ (.int .i64 h1) rfl]
 simp only [Result.andThen_ok]
 rw [he]
 simp only [Result.andThen_ok]
 rcases e1 : (g1 == h1) with _ | _
 ·simp
 simp only [Bool.not_true, Bool.false_eq_true, if_false, Sem.run_pure, Result.andThen_ok, Sem.run_bind]
 rw [part3 w _ _ (.int .i64 g2) rfl]
 simp only [Result.andThen_ok]
 rw [part3 w _ _ (.int .i64 h2) rfl]
 simp only [Result.andThen_ok]
 rw [he]
 simp only [Result.andThen_ok]
 rcases e2 : (g2 == h2) with _ | _
 ·simp
 simp only [Bool.not_true, Bool.false_eq_true, if_false, Sem.run_pure, Result.andThen_ok, Sem.run_bind]
 rw [part3 w _ _ (.int .i64 g3) rfl]
 simp only [Result.andThen_ok]
 rw [part3 w _ _ (.int .i64 h3) rfl]
 simp only [Result.andThen_ok]
 rw [he]
 simp only [Result.andThen_ok]
 rcases e3 : (g3 == h3) with _ | _
 ·simp
 simp only [Bool.not_true, Bool.false_eq_true, if_false, Sem.run_pure, Result.andThen_ok, Sem.run_bind]
 rw [part3 w _ _ (.int .i64 g4) rfl]
 simp only [Result.andThen_ok]
 rw [part3 w _ _ (.int .i64 h4) rfl]
 simp only [Result.andThen_ok]
 rw [he]
 simp only [Result.andThen_ok]
 rcases e4 : (g4 == h4) with _ | _
 ·simp
 ·simp
set_option maxHeartbeats 4000000 in
theorem Same11_ref (a : Option Addr) (n cap : Nat) (s : List Ac) (a' : Option Addr) (n' cap' : Nat) (s' : List Ac) (w : World) (hA : AC w a n s) (hA' : AC w a' n' s') : Calls Tryz.prog 73 #[.slice a n cap, .slice a' n' cap'] w fun e w' => e = .returned (.bool (decide (s = s'))) ∧ Below w.heap.size w w' := by
 have HV := hide hA
 have HV' := hide hA'
 have HLEN := hide hA.1.1
 have HLEN' := hide hA'.1.1
 have hmx := hA.1.2.1
 unfold maxLen at hmx
 clear hA hA'
 by_cases hnn : n = n'
 ·subst hnn
  go_enter Tryz.func73, Tryz.ntmps73
  go_wp2
  go_loopw [5] (fun v wr => ∃ k : Nat, k ≤ n ∧ v = .int .i64 k ∧ Hid (s.take k = s'.take k) ∧ Hid (Below w.heap.size w wr)) (fun v _ => n - (intOf v).toNat)
  case atStart => exact ⟨0, by omega, rfl, (show _ = _ by simp), Below.refl _ _⟩
  case round =>
   obtain ⟨k0, hk, rfl, HF, HB⟩ := hrel
   by_cases hlt : k0 < n
   ·obtain ⟨b, off, rfl⟩ := HV.out.addr (by omega)
    obtain ⟨b', off', rfl⟩ := HV'.out.addr (by omega)
    obtain ⟨k, g0, g1, g2, g3, g4, hx, c0, c1, c2, c3, c4, c5⟩ := (HV.out.below HB.out).five k0 hlt
    obtain ⟨k', h0, h1, h2, h3, h4, hx', d0, d1, d2, d3, d4, d5⟩ := (HV'.out.below HB.out).five k0 hlt
    have hk0 : (0 : Int) ≤ (k0 : Int) := by omega
    have hk1 : (k0 : Int) < (n : Int) := by omega
    have hq := eqK k k'
    have HX := hide hx
    have HX' := hide hx'
    clear hx hx'
    by_cases he : k = k'
    ·rw [decide_eq_true he] at hq
     subst he
     by_cases hm0 : g0 = h0
     ·subst hm0
      by_cases hm1 : g1 = h1
      ·subst hm1
       by_cases hm2 : g2 = h2
       ·subst hm2
        by_cases hm3 : g3 = h3
        ·subst hm3
         by_cases hm4 : g4 = h4
         ·subst hm4
          have hE : ∀ W, Sem.run Tryz.prog (Op.equalIn 9999 132 (.agg #[.int .i64 g0, .int .i64 g1, .int .i64 g2, .int .i64 g3, .int .i64 g4]) (.agg #[.int .i64 g0, .int .i64 g1, .int .i64 g2, .int .i64 g3, .int .i64 g4])) W = .ok true W := fun W => (eql5 9997 g0 g1 g2 g3 g4 g0 g1 g2 g3 g4 W).trans (by simp)
          have HF2 : Hid (s.take (k0 + 1) = s'.take (k0 + 1)) := by unfold Hid; rw [takeG_snoc HX.out, takeG_snoc HX'.out, HF.out]
          go_upto_region 6 with fail
          refine wp_region_held_drew (S := fun W => Below wr.heap.size wr W) (by kernel_rfl) ((Below.refl _ wr).drew) (fun hS0 => ?_)
          refine tkJ 0 17 hS0 ?_; simp only [ly]
          refine tkJ 1 18 hS0 ?_; simp only [ly]
          refine tkJ 2 19 hS0 ?_; simp only [ly]
          refine tkL 3 20 hS0 ?h ?_; case h => (intro W hW; have e0 := bcell hW c0; have e1 := bcell hW c1; have e2 := bcell hW c2; have e3 := bcell hW c3; have e4 := bcell hW c4; have e5 := bcell hW c5; have e6 := bcell hW d0; have e7 := bcell hW d1; have e8 := bcell hW d2; have e9 := bcell hW d3; have e10 := bcell hW d4; have e11 := bcell hW d5; clear hW; go_simp; try rfl); simp only [ly]
          refine tkJ 4 21 hS0 ?_; simp only [ly]
          refine tkJ 5 22 hS0 ?_; simp only [ly]
          refine tkJ 6 23 hS0 ?_; simp only [ly]
          refine tkL 7 24 hS0 ?h ?_; case h => (intro W hW; have e0 := bcell hW c0; have e1 := bcell hW c1; have e2 := bcell hW c2; have e3 := bcell hW c3; have e4 := bcell hW c4; have e5 := bcell hW c5; have e6 := bcell hW d0; have e7 := bcell hW d1; have e8 := bcell hW d2; have e9 := bcell hW d3; have e10 := bcell hW d4; have e11 := bcell hW d5; clear hW; go_simp; try rfl); simp only [ly]
          refine tkJ 8 25 hS0 ?_; simp only [ly]
          refine wpAnyH_done (by kernel_rfl) ?_ _
          go_wp2
          go_roundw
          case rel => exact ⟨k0 + 1, by omega, by go_num, HF2, (show Hid _ from bel_next HB.out hS0)⟩
          case measure => simp [intOf]; omega
         ·have HNO : Hid (decide (s = s') = false) := by
           unfold Hid
           rw [decide_eq_false_iff_not]
           intro q
           have h1 := HX.out
           rw [q, HX'.out] at h1
           cases h1
           exact hm4 rfl
          have hb4 : (g4 == h4) = false := by rw [beq_eq_false_iff_ne]; exact hm4
          have hE : ∀ W, Sem.run Tryz.prog (Op.equalIn 9999 132 (.agg #[.int .i64 g0, .int .i64 g1, .int .i64 g2, .int .i64 g3, .int .i64 g4]) (.agg #[.int .i64 g0, .int .i64 g1, .int .i64 g2, .int .i64 g3, .int .i64 h4])) W = .ok false W := fun W => (eql5 9997 g0 g1 g2 g3 g4 g0 g1 g2 g3 h4 W).trans (by rw [hb4]; simp)
          go_upto_region 6 with fail
          refine wp_region_held_drew (S := fun W => Below wr.heap.size wr W) (by kernel_rfl) ((Below.refl _ wr).drew) (fun hS0 => ?_)
          refine tkJ 0 17 hS0 ?_; simp only [ly]
          refine tkJ 1 18 hS0 ?_; simp only [ly]
          refine tkJ 2 19 hS0 ?_; simp only [ly]
          refine tkL 3 20 hS0 ?h ?_; case h => (intro W hW; have e0 := bcell hW c0; have e1 := bcell hW c1; have e2 := bcell hW c2; have e3 := bcell hW c3; have e4 := bcell hW c4; have e5 := bcell hW c5; have e6 := bcell hW d0; have e7 := bcell hW d1; have e8 := bcell hW d2; have e9 := bcell hW d3; have e10 := bcell hW d4; have e11 := bcell hW d5; clear hW; go_simp; try rfl); simp only [ly]
          refine tkJ 4 21 hS0 ?_; simp only [ly]
          refine tkJ 5 22 hS0 ?_; simp only [ly]
          refine tkJ 6 23 hS0 ?_; simp only [ly]
          refine tkL 7 24 hS0 ?h ?_; case h => (intro W hW; have e0 := bcell hW c0; have e1 := bcell hW c1; have e2 := bcell hW c2; have e3 := bcell hW c3; have e4 := bcell hW c4; have e5 := bcell hW c5; have e6 := bcell hW d0; have e7 := bcell hW d1; have e8 := bcell hW d2; have e9 := bcell hW d3; have e10 := bcell hW d4; have e11 := bcell hW d5; clear hW; go_simp; try rfl); simp only [ly]
          refine tkJ 8 25 hS0 ?_; simp only [ly]
          refine wpAnyH_done (by kernel_rfl) ?_ _
          go_wp2
          go_ret
          exact ⟨by rw [HNO.out]; rfl, bel_next HB.out hS0⟩
        ·have HNO : Hid (decide (s = s') = false) := by
          unfold Hid
          rw [decide_eq_false_iff_not]
          intro q
          have h1 := HX.out
          rw [q, HX'.out] at h1
          cases h1
          exact hm3 rfl
         have hb3 : (g3 == h3) = false := by rw [beq_eq_false_iff_ne]; exact hm3
         have hE : ∀ W, Sem.run Tryz.prog (Op.equalIn 9999 132 (.agg #[.int .i64 g0, .int .i64 g1, .int .i64 g2, .int .i64 g3, .int .i64 g4]) (.agg #[.int .i64 g0, .int .i64 g1, .int .i64 g2, .int .i64 h3, .int .i64 h4])) W = .ok false W := fun W => (eql5 9997 g0 g1 g2 g3 g4 g0 g1 g2 h3 h4 W).trans (by rw [hb3]; simp)
         go_upto_region 6 with fail
         refine wp_region_held_drew (S := fun W => Below wr.heap.size wr W) (by kernel_rfl) ((Below.refl _ wr).drew) (fun hS0 => ?_)
         refine tkJ 0 17 hS0 ?_; simp only [ly]
         refine tkJ 1 18 hS0 ?_; simp only [ly]
         refine tkJ 2 19 hS0 ?_; simp only [ly]
         refine tkL 3 20 hS0 ?h ?_; case h => (intro W hW; have e0 := bcell hW c0; have e1 := bcell hW c1; have e2 := bcell hW c2; have e3 := bcell hW c3; have e4 := bcell hW c4; have e5 := bcell hW c5; have e6 := bcell hW d0; have e7 := bcell hW d1; have e8 := bcell hW d2; have e9 := bcell hW d3; have e10 := bcell hW d4; have e11 := bcell hW d5; clear hW; go_simp; try rfl); simp only [ly]
         refine tkJ 4 21 hS0 ?_; simp only [ly]
         refine tkJ 5 22 hS0 ?_; simp only [ly]
         refine tkJ 6 23 hS0 ?_; simp only [ly]
         refine tkL 7 24 hS0 ?h ?_; case h => (intro W hW; have e0 := bcell hW c0; have e1 := bcell hW c1; have e2 := bcell hW c2; have e3 := bcell hW c3; have e4 := bcell hW c4; have e5 := bcell hW c5; have e6 := bcell hW d0; have e7 := bcell hW d1; have e8 := bcell hW d2; have e9 := bcell hW d3; have e10 := bcell hW d4; have e11 := bcell hW d5; clear hW; go_simp; try rfl); simp only [ly]
         refine tkJ 8 25 hS0 ?_; simp only [ly]
         refine wpAnyH_done (by kernel_rfl) ?_ _
         go_wp2
         go_ret
         exact ⟨by rw [HNO.out]; rfl, bel_next HB.out hS0⟩
       ·have HNO : Hid (decide (s = s') = false) := by
         unfold Hid
         rw [decide_eq_false_iff_not]
         intro q
         have h1 := HX.out
         rw [q, HX'.out] at h1
         cases h1
         exact hm2 rfl
        have hb2 : (g2 == h2) = false := by rw [beq_eq_false_iff_ne]; exact hm2
        have hE : ∀ W, Sem.run Tryz.prog (Op.equalIn 9999 132 (.agg #[.int .i64 g0, .int .i64 g1, .int .i64 g2, .int .i64 g3, .int .i64 g4]) (.agg #[.int .i64 g0, .int .i64 g1, .int .i64 h2, .int .i64 h3, .int .i64 h4])) W = .ok false W := fun W => (eql5 9997 g0 g1 g2 g3 g4 g0 g1 h2 h3 h4 W).trans (by rw [hb2]; simp)
        go_upto_region 6 with fail
        refine wp_region_held_drew (S := fun W => Below wr.heap.size wr W) (by kernel_rfl) ((Below.refl _ wr).drew) (fun hS0 => ?_)
        refine tkJ 0 17 hS0 ?_; simp only [ly]
        refine tkJ 1 18 hS0 ?_; simp only [ly]
        refine tkJ 2 19 hS0 ?_; simp only [ly]
        refine tkL 3 20 hS0 ?h ?_; case h => (intro W hW; have e0 := bcell hW c0; have e1 := bcell hW c1; have e2 := bcell hW c2; have e3 := bcell hW c3; have e4 := bcell hW c4; have e5 := bcell hW c5; have e6 := bcell hW d0; have e7 := bcell hW d1; have e8 := bcell hW d2; have e9 := bcell hW d3; have e10 := bcell hW d4; have e11 := bcell hW d5; clear hW; go_simp; try rfl); simp only [ly]
        refine tkJ 4 21 hS0 ?_; simp only [ly]
        refine tkJ 5 22 hS0 ?_; simp only [ly]
        refine tkJ 6 23 hS0 ?_; simp only [ly]
        refine tkL 7 24 hS0 ?h ?_; case h => (intro W hW; have e0 := bcell hW c0; have e1 := bcell hW c1; have e2 := bcell hW c2; have e3 := bcell hW c3; have e4 := bcell hW c4; have e5 := bcell hW c5; have e6 := bcell hW d0; have e7 := bcell hW d1; have e8 := bcell hW d2; have e9 := bcell hW d3; have e10 := bcell hW d4; have e11 := bcell hW d5; clear hW; go_simp; try rfl); simp only [ly]
        refine tkJ 8 25 hS0 ?_; simp only [ly]
        refine wpAnyH_done (by kernel_rfl) ?_ _
        go_wp2
        go_ret
        exact ⟨by rw [HNO.out]; rfl, bel_next HB.out hS0⟩
      ·have HNO : Hid (decide (s = s') = false) := by
        unfold Hid
        rw [decide_eq_false_iff_not]
        intro q
        have h1 := HX.out
        rw [q, HX'.out] at h1
        cases h1
        exact hm1 rfl
       have hb1 : (g1 == h1) = false := by rw [beq_eq_false_iff_ne]; exact hm1
       have hE : ∀ W, Sem.run Tryz.prog (Op.equalIn 9999 132 (.agg #[.int .i64 g0, .int .i64 g1, .int .i64 g2, .int .i64 g3, .int .i64 g4]) (.agg #[.int .i64 g0, .int .i64 h1, .int .i64 h2, .int .i64 h3, .int .i64 h4])) W = .ok false W := fun W => (eql5 9997 g0 g1 g2 g3 g4 g0 h1 h2 h3 h4 W).trans (by rw [hb1]; simp)
       go_upto_region 6 with fail
       refine wp_region_held_drew (S := fun W => Below wr.heap.size wr W) (by kernel_rfl) ((Below.refl _ wr).drew) (fun hS0 => ?_)
       refine tkJ 0 17 hS0 ?_; simp only [ly]
       refine tkJ 1 18 hS0 ?_; simp only [ly]
       refine tkJ 2 19 hS0 ?_; simp only [ly]
       refine tkL 3 20 hS0 ?h ?_; case h => (intro W hW; have e0 := bcell hW c0; have e1 := bcell hW c1; have e2 := bcell hW c2; have e3 := bcell hW c3; have e4 := bcell hW c4; have e5 := bcell hW c5; have e6 := bcell hW d0; have e7 := bcell hW d1; have e8 := bcell hW d2; have e9 := bcell hW d3; have e10 := bcell hW d4; have e11 := bcell hW d5; clear hW; go_simp; try rfl); simp only [ly]
       refine tkJ 4 21 hS0 ?_; simp only [ly]
       refine tkJ 5 22 hS0 ?_; simp only [ly]
       refine tkJ 6 23 hS0 ?_; simp only [ly]
       refine tkL 7 24 hS0 ?h ?_; case h => (intro W hW; have e0 := bcell hW c0; have e1 := bcell hW c1; have e2 := bcell hW c2; have e3 := bcell hW c3; have e4 := bcell hW c4; have e5 := bcell hW c5; have e6 := bcell hW d0; have e7 := bcell hW d1; have e8 := bcell hW d2; have e9 := bcell hW d3; have e10 := bcell hW d4; have e11 := bcell hW d5; clear hW; go_simp; try rfl); simp only [ly]
       refine tkJ 8 25 hS0 ?_; simp only [ly]
       refine wpAnyH_done (by kernel_rfl) ?_ _
       go_wp2
       go_ret
       exact ⟨by rw [HNO.out]; rfl, bel_next HB.out hS0⟩
     ·have HNO : Hid (decide (s = s') = false) := by
       unfold Hid
       rw [decide_eq_false_iff_not]
       intro q
       have h1 := HX.out
       rw [q, HX'.out] at h1
       cases h1
       exact hm0 rfl
      have hb0 : (g0 == h0) = false := by rw [beq_eq_false_iff_ne]; exact hm0
      have hE : ∀ W, Sem.run Tryz.prog (Op.equalIn 9999 132 (.agg #[.int .i64 g0, .int .i64 g1, .int .i64 g2, .int .i64 g3, .int .i64 g4]) (.agg #[.int .i64 h0, .int .i64 h1, .int .i64 h2, .int .i64 h3, .int .i64 h4])) W = .ok false W := fun W => (eql5 9997 g0 g1 g2 g3 g4 h0 h1 h2 h3 h4 W).trans (by rw [hb0]; simp)
      go_upto_region 6 with fail
      refine wp_region_held_drew (S := fun W => Below wr.heap.size wr W) (by kernel_rfl) ((Below.refl _ wr).drew) (fun hS0 => ?_)
      refine tkJ 0 17 hS0 ?_; simp only [ly]
      refine tkJ 1 18 hS0 ?_; simp only [ly]
      refine tkJ 2 19 hS0 ?_; simp only [ly]
      refine tkL 3 20 hS0 ?h ?_; case h => (intro W hW; have e0 := bcell hW c0; have e1 := bcell hW c1; have e2 := bcell hW c2; have e3 := bcell hW c3; have e4 := bcell hW c4; have e5 := bcell hW c5; have e6 := bcell hW d0; have e7 := bcell hW d1; have e8 := bcell hW d2; have e9 := bcell hW d3; have e10 := bcell hW d4; have e11 := bcell hW d5; clear hW; go_simp; try rfl); simp only [ly]
      refine tkJ 4 21 hS0 ?_; simp only [ly]
      refine tkJ 5 22 hS0 ?_; simp only [ly]
      refine tkJ 6 23 hS0 ?_; simp only [ly]
      refine tkL 7 24 hS0 ?h ?_; case h => (intro W hW; have e0 := bcell hW c0; have e1 := bcell hW c1; have e2 := bcell hW c2; have e3 := bcell hW c3; have e4 := bcell hW c4; have e5 := bcell hW c5; have e6 := bcell hW d0; have e7 := bcell hW d1; have e8 := bcell hW d2; have e9 := bcell hW d3; have e10 := bcell hW d4; have e11 := bcell hW d5; clear hW; go_simp; try rfl); simp only [ly]
      refine tkJ 8 25 hS0 ?_; simp only [ly]
      refine wpAnyH_done (by kernel_rfl) ?_ _
      go_wp2
      go_ret
      exact ⟨by rw [HNO.out]; rfl, bel_next HB.out hS0⟩
    ·have HNO : Hid (decide (s = s') = false) := by
      unfold Hid
      rw [decide_eq_false_iff_not]
      intro q
      have h1 := HX.out
      rw [q, HX'.out] at h1
      cases h1
      exact he rfl
     rw [decide_eq_false he] at hq
     go_upto_region 6 with fail
     refine wp_region_held_drew (S := fun W => Below wr.heap.size wr W) (by kernel_rfl) ((Below.refl _ wr).drew) (fun hS0 => ?_)
     refine tkJ 0 17 hS0 ?_; simp only [ly]
     refine tkJ 1 18 hS0 ?_; simp only [ly]
     refine tkJ 2 19 hS0 ?_; simp only [ly]
     refine tkL 3 20 hS0 ?h ?_; case h => (intro W hW; have e0 := bcell hW c0; have e1 := bcell hW c1; have e2 := bcell hW c2; have e3 := bcell hW c3; have e4 := bcell hW c4; have e5 := bcell hW c5; have e6 := bcell hW d0; have e7 := bcell hW d1; have e8 := bcell hW d2; have e9 := bcell hW d3; have e10 := bcell hW d4; have e11 := bcell hW d5; clear hW; go_simp; try rfl); simp only [ly]
     refine tkJ 4 21 hS0 ?_; simp only [ly]
     refine tkJ 5 22 hS0 ?_; simp only [ly]
     refine tkJ 6 23 hS0 ?_; simp only [ly]
     refine tkL 7 24 hS0 ?h ?_; case h => (intro W hW; have e0 := bcell hW c0; have e1 := bcell hW c1; have e2 := bcell hW c2; have e3 := bcell hW c3; have e4 := bcell hW c4; have e5 := bcell hW c5; have e6 := bcell hW d0; have e7 := bcell hW d1; have e8 := bcell hW d2; have e9 := bcell hW d3; have e10 := bcell hW d4; have e11 := bcell hW d5; clear hW; go_simp; try rfl); simp only [ly]
     refine tkJ 8 25 hS0 ?_; simp only [ly]
     refine wpAnyH_done (by kernel_rfl) ?_ _
     go_wp2
     go_ret
     exact ⟨by rw [HNO.out]; rfl, bel_next HB.out hS0⟩
   ·obtain rfl : k0 = n := by omega
    have HR : Hid (s = s') := by
     have := HF.out
     rwa [List.take_of_length_le (by rw [HLEN.out]; exact Nat.le_refl _), List.take_of_length_le (by rw [HLEN'.out]; exact Nat.le_refl _)] at this
    clear HF
    go_wp2
    go_ret
    exact ⟨by rw [decide_eq_true HR.out]; rfl, HB.out⟩
 ·have HNO : Hid (decide (s = s') = false) := by
   unfold Hid
   rw [decide_eq_false_iff_not]
   intro q
   have := HLEN.out
   rw [q, HLEN'.out] at this
   exact hnn this.symm
  have hnz : ¬ (n : Int) = (n' : Int) := by omega
  have hnb : ((n : Int) == (n' : Int)) = false := by rw [beq_eq_false_iff_ne]; exact hnz
  go_enter Tryz.func73, Tryz.ntmps73
  go_wp2
  go_ret
  exact ⟨by rw [HNO.out]; rfl, Below.refl _ _⟩
end Go.Proofs.YtkbbegbpkndebaaGreat

