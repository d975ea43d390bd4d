/- Texts of this claim, joined: GT3, GTa, GE4, GE5, GE8. -/
import Derived.Test.YtkbbegbpkndebaaGreatJ19
import Derived.Test.YtkbbegbpkndebaaGreatJ20
import Derived.Test.YtkbbegbpkndebaaGreatJ4
/- What comes into layer 10's statements. -/
namespace Go.Proofs.YtkbbegbpkndebaaGreat
open Go.RowKit Go.ChangeShapes Go.WideShapes
set_option linter.unusedVariables false
def celR : Rl Ce := fun _ cs x => cs = [.string x.1, .int .i64 x.2]
theorem Tryz.cellsCel : Tryz.prog.cellsOf 129 = 2 := by kernel_rfl
theorem Tryz.cellsI10 : Tryz.prog.cellsOf 3 = 1 := by kernel_rfl
theorem Tryz.cellsS10 : Tryz.prog.cellsOf 9 = 1 := by kernel_rfl
theorem len2T {α : Type} (l : List α) (h : l.length = 2) : ∃ a b, l = [a, b] := by
 match l, h with
 | [a, b], _ => exact ⟨a, b, rfl⟩
set_option maxRecDepth 100000 in
theorem open_cel : Opens 129 celR := by
 intro H enc W fuel cs y h
 obtain ⟨xs, k, hk, hxy, hcl, hxl, hf⟩ := DataW.trod_struct Tryz.underlying129 h
 rw [Tryz.cellsCel] at hcl
 obtain ⟨v0, v1, rfl⟩ := len2T cs hcl
 obtain ⟨y0, y1, rfl⟩ := len2T xs hxl
 have g0 : DataW.trod enc Tryz.prog W 0 (fun _ => true) true k 9 (([v0, v1].drop 0).take (Tryz.prog.cellsOf 9)) = some y0 := hf 0 _ rfl
 have g1 : DataW.trod enc Tryz.prog W 0 (fun _ => true) true k 3 (([v0, v1].drop 1).take (Tryz.prog.cellsOf 3)) = some y1 := hf 1 _ rfl
 rw [Tryz.cellsS10] at g0
 rw [Tryz.cellsI10] at g1
 obtain ⟨a0, h0⟩ := Opens.string Tryz.underlying9 _ _ _ _ _ _ g0
 obtain ⟨a1, h1⟩ := Opens.int Tryz.underlying3 _ _ _ _ _ _ g1
 simp [strR] at h0
 simp [intR] at h1
 exact ⟨(a0, a1), by rw [h0, h1]; rfl⟩
theorem SR.ts {w : World} {a : Option Addr} {n : Nat} {s : List Ce} (h : SR 2 celR w a n s) : TS w a n s := by
 obtain ⟨h1, h2, h3⟩ := h
 refine ⟨h1, h2, h3.imp id ?_⟩
 rintro ⟨b, off, ha, hc⟩
 refine ⟨b, off, ha, fun i x hx j v hj => ?_⟩
 obtain ⟨r, _, hr, hcell⟩ := hc i x hx
 rw [hr] at hcell
 exact hcell j v hj
def chkT (s : List Ce) : Int := if mayT s = true then 0 else 1
theorem chkT_yes {s : List Ce} (h : mayT s = true) : chkT s = 0 := by unfold chkT; rw [if_pos h]
theorem chkT_no {s : List Ce} (h : mayT s = false) : chkT s = 1 := by unfold chkT; rw [h]; rfl
end Go.Proofs.YtkbbegbpkndebaaGreat

/- What the program checks of a tally (layer 10). -/
namespace Go.Proofs.YtkbbegbpkndebaaGreat
open Go.RowKit Go.Lib
set_option linter.unusedVariables false
set_option maxHeartbeats 400000 in
theorem key10_any (k : ByteArray) (w : World) : Calls Tryz.prog 212 #[.string k] w fun e w' => e = .returned (.bool (mayK k)) ∧ Below w.heap.size w w' := by
 obtain ⟨b, hb⟩ : ∃ b, mayK k = b := ⟨_, rfl⟩
 rw [hb]
 have HB := hide hb
 clear hb
 by_cases h1 : (1 : Int) ≤ (k.size : Int)
 ·by_cases h2 : (k.size : Int) ≤ 32
  ·go_enter Tryz.func212, Tryz.ntmps212
   go_wp2
   go_ret
   refine ⟨?_, by first | exact Below.refl _ _ | go_grown⟩
   rw [← HB.out]
   simp [mayK]; omega
  ·go_enter Tryz.func212, Tryz.ntmps212
   go_wp2
   go_ret
   refine ⟨?_, by first | exact Below.refl _ _ | go_grown⟩
   rw [← HB.out]
   simp [mayK]; omega
 ·go_enter Tryz.func212, Tryz.ntmps212
  go_wp2
  go_ret
  refine ⟨?_, by first | exact Below.refl _ _ | go_grown⟩
  rw [← HB.out]
  simp [mayK]; omega
set_option maxHeartbeats 2000000 in
theorem cell10_any (k : ByteArray) (m : Int) (w : World) : Calls Tryz.prog 181 #[.agg #[.string k, .int .i64 m]] w fun e w' => e = .returned (.bool (mayCe (k, m))) ∧ Below w.heap.size w w' := by
 rcases h1 : mayK k with _ | _
 ·have H1 := hide h1
  have HR : Hid (mayCe (k, m) = false) := by unfold Hid mayCe; simp only; rw [h1]; rfl
  clear h1
  go_enter Tryz.func181, Tryz.ntmps181
  go_wp2_with (go_at_call 212; refine (key10_any k _).mono ?_; rintro e w1 ⟨rfl, hb1⟩; rw [H1.out]; have d0 := bcell hb1 (cell_new w #[.string k, .int .i64 m] 129 _ rfl 0 _ rfl); have d1 := bcell hb1 (cell_new w #[.string k, .int .i64 m] 129 _ rfl 1 _ rfl); have BB := hide (bel_next (bel1 _ _) hb1); clear hb1; refine Stop.at ?_)
  unfold Stop
  go_wp2
  go_ret
  exact ⟨by rw [HR.out]; first | rfl | (simp; omega), BB.out⟩
 ·have H1 := hide h1
  by_cases m0 : m = 0
  ·have HR : Hid (mayCe (k, m) = false) := by unfold Hid; rw [Bool.eq_false_iff]; intro q; exact (mayCe_iff.1 q).2.1 m0
   clear h1
   subst m0
   go_enter Tryz.func181, Tryz.ntmps181
   go_wp2_with (go_at_call 212; refine (key10_any k _).mono ?_; rintro e w1 ⟨rfl, hb1⟩; rw [H1.out]; have d0 := bcell hb1 (cell_new w #[.string k, .int .i64 0] 129 _ rfl 0 _ rfl); have d1 := bcell hb1 (cell_new w #[.string k, .int .i64 0] 129 _ rfl 1 _ rfl); have BB := hide (bel_next (bel1 _ _) hb1); clear hb1; refine Stop.at ?_)
   unfold Stop
   go_wp2
   go_ret
   exact ⟨by rw [HR.out]; first | rfl | (simp; omega), BB.out⟩
  ·by_cases m1 : m ≤ 1099511627776
   ·by_cases m2 : -1099511627776 ≤ m
    ·have HR : Hid (mayCe (k, m) = true) := mayCe_iff.2 ⟨h1, m0, m2, m1⟩
     clear h1
     have m3 : (m != 0) = true := by simpa using m0
     go_enter Tryz.func181, Tryz.ntmps181
     go_wp2_with (go_at_call 212; refine (key10_any k _).mono ?_; rintro e w1 ⟨rfl, hb1⟩; rw [H1.out]; have d0 := bcell hb1 (cell_new w #[.string k, .int .i64 m] 129 _ rfl 0 _ rfl); have d1 := bcell hb1 (cell_new w #[.string k, .int .i64 m] 129 _ rfl 1 _ rfl); have BB := hide (bel_next (bel1 _ _) hb1); clear hb1; refine Stop.at ?_)
     unfold Stop
     go_wp2
     go_ret
     exact ⟨by rw [HR.out]; first | rfl | (simp; omega), BB.out⟩
    ·have HR : Hid (mayCe (k, m) = false) := by unfold Hid; rw [Bool.eq_false_iff]; intro q; exact m2 (mayCe_iff.1 q).2.2.1
     clear h1
     have m3 : (m != 0) = true := by simpa using m0
     go_enter Tryz.func181, Tryz.ntmps181
     go_wp2_with (go_at_call 212; refine (key10_any k _).mono ?_; rintro e w1 ⟨rfl, hb1⟩; rw [H1.out]; have d0 := bcell hb1 (cell_new w #[.string k, .int .i64 m] 129 _ rfl 0 _ rfl); have d1 := bcell hb1 (cell_new w #[.string k, .int .i64 m] 129 _ rfl 1 _ rfl); have BB := hide (bel_next (bel1 _ _) hb1); clear hb1; refine Stop.at ?_)
     unfold Stop
     go_wp2
     go_ret
     exact ⟨by rw [HR.out]; first | rfl | (simp; omega), BB.out⟩
   ·have HR : Hid (mayCe (k, m) = false) := by unfold Hid; rw [Bool.eq_false_iff]; intro q; exact m1 (mayCe_iff.1 q).2.2.2
    clear h1
    have m3 : (m != 0) = true := by simpa using m0
    go_enter Tryz.func181, Tryz.ntmps181
    go_wp2_with (go_at_call 212; refine (key10_any k _).mono ?_; rintro e w1 ⟨rfl, hb1⟩; rw [H1.out]; have d0 := bcell hb1 (cell_new w #[.string k, .int .i64 m] 129 _ rfl 0 _ rfl); have d1 := bcell hb1 (cell_new w #[.string k, .int .i64 m] 129 _ rfl 1 _ rfl); have BB := hide (bel_next (bel1 _ _) hb1); clear hb1; refine Stop.at ?_)
    unfold Stop
    go_wp2
    go_ret
    exact ⟨by rw [HR.out]; first | rfl | (simp; omega), BB.out⟩
set_option maxHeartbeats 4000000 in
theorem Check10_any (a : Option Addr) (n cap : Nat) (s : List Ce) (w : World) (hA : TS w a n s) : Calls Tryz.prog 128 #[.slice a n cap] w fun e w' => e = .returned (.int .i64 (chkT s)) ∧ Below w.heap.size w w' := by
 have HV := hide hA
 have hmx := hA.2.1
 have HLEN := hide hA.1
 unfold maxLen at hmx
 clear hA
 by_cases hbig : (4000 : Int) < (n : Int)
 ·have HR : Hid (chkT s = 1) := by
   unfold Hid chkT
   rw [if_neg]
   intro h
   have := (mayG_iff.1 h).2.2
   rw [HLEN.out] at this
   omega
  go_enter Tryz.func128, Tryz.ntmps128
  go_wp2
  go_ret
  exact ⟨by simp [HR.out], Below.refl _ _⟩
 ·go_enter Tryz.func128, Tryz.ntmps128
  go_wp2
  go_loopw [10] (fun i wr => ∃ k : Nat, k ≤ n ∧ i = .int .i64 k ∧ Hid ((s.take k).all mayCe = true ∧ SrtG kC (s.take k)) ∧ Hid (Below w.heap.size w wr)) (fun i _ => n - (intOf i).toNat)
  case atStart => exact ⟨0, by omega, rfl, (show _ ∧ _ by simp [SrtG]), Below.refl _ _⟩
  case round =>
   obtain ⟨k0, hk, rfl, HF, HB⟩ := hrel
   by_cases hlt : k0 < n
   ·obtain ⟨b, off, rfl⟩ := HV.out.addr (by omega)
    obtain ⟨k, m, hx, c0, c1⟩ := (HV.out.below HB.out).at k0 hlt
    have hk0 : (0 : Int) ≤ (k0 : Int) := by omega
    have hk1 : (k0 : Int) < (n : Int) := by omega
    have HX := hide hx
    clear hx
    go_upto_region 6 with fail
    have HB2 : Hid (Below w.heap.size w (wr.alloc (.cells #[.string k, .int .i64 m] 129))) := HB.out.alloc HB.out.size _
    have d0 := cell_new wr #[.string k, .int .i64 m] 129 _ rfl 0 _ rfl
    have d1 := cell_new wr #[.string k, .int .i64 m] 129 _ rfl 1 _ rfl
    generalize hgb : wr.heap.size = gb at *
    have HV2 := hide (HV.out.below HB2.out)
    clear c0 c1 HB
    generalize wr.alloc (.cells #[.string k, .int .i64 m] 129) = u at *
    clear hgb
    rcases hm : mayCe (k, m) with _ | _
    ·have HM := hide hm
     have HNO : Hid (chkT s = 1) := chkT_no (mayG_no HX.out hm)
     clear hm
     refine wp_region_held_drew (S := fun W => Below u.heap.size u W) (by kernel_rfl) ((Below.refl _ u).drew) (fun hS0 => ?_)
     refine tkL 0 15 hS0 ?h ?_; case h => (intro W hW; have e0 := bcell hW d0; have e1 := bcell hW d1; clear hW; go_simp; try rfl); simp only [ly]
     refine wpAnyH_ready (rs := [1]) (by kernel_rfl) (by simp) ?_
     refine AllReadyH.cons rfl (fun K hK => ?_) AllReadyH.nil
     go_simp
     refine (cell10_any k m _).mono ?_
     rintro e w' ⟨rfl, hb⟩
     rw [show mayCe (k, m) = false from HM.out]
     refine hK.out _ _ ?hs2 (fun hS1 => ?_)
     case hs2 => exact bel_next hS0 hb
     clear hK K hb
     try simp only [ly]
     refine tkJ 2 17 hS1 ?_; simp only [ly]
     refine tkJ 3 18 hS1 ?_; simp only [ly]
     refine tkM 4 19 hS1 ?_; simp only [ly]
     refine tkM 5 20 hS1 ?_; simp only [ly]
     refine tkM 6 21 hS1 ?_; simp only [ly]
     refine tkM 7 22 hS1 ?_; simp only [ly]
     refine tkM 8 23 hS1 ?_; simp only [ly]
     refine tkM 9 24 hS1 ?_; simp only [ly]
     refine tkM 10 25 hS1 ?_; simp only [ly]
     refine tkM 11 26 hS1 ?_; simp only [ly]
     refine tkM 12 27 hS1 ?_; simp only [ly]
     refine tkM 13 28 hS1 ?_; simp only [ly]
     refine tkM 14 29 hS1 ?_; simp only [ly]
     refine tkM 15 30 hS1 ?_; simp only [ly]
     refine tkM 16 31 hS1 ?_; simp only [ly]
     refine tkJ 17 32 hS1 ?_; simp only [ly]
     refine wpAnyH_done (by kernel_rfl) ?_ _
     go_wp2
     go_ret
     exact ⟨by simp [HNO.out], bel_next HB2.out hS1⟩
    ·have HM := hide hm
     clear hm
     rcases k0 with _ | j
     ·have HF2 : Hid ((s.take (0 + 1)).all mayCe = true ∧ SrtG kC (s.take (0 + 1))) := stepG HX.out HF.out HM.out (fun j c h => by omega)
      simp only [Nat.zero_add] at HF2
      refine wp_region_held_drew (S := fun W => Below u.heap.size u W) (by kernel_rfl) ((Below.refl _ u).drew) (fun hS0 => ?_)
      refine tkL 0 15 hS0 ?h ?_; case h => (intro W hW; have e0 := bcell hW d0; have e1 := bcell hW d1; clear hW; go_simp; try rfl); simp only [ly]
      refine wpAnyH_ready (rs := [1]) (by kernel_rfl) (by simp) ?_
      refine AllReadyH.cons rfl (fun K hK => ?_) AllReadyH.nil
      go_simp
      refine (cell10_any k m _).mono ?_
      rintro e w' ⟨rfl, hb⟩
      rw [show mayCe (k, m) = true from HM.out]
      refine hK.out _ _ ?hs7 (fun hS1 => ?_)
      case hs7 => exact bel_next hS0 hb
      clear hK K hb
      try simp only [ly]
      refine tkJ 2 17 hS1 ?_; simp only [ly]
      refine tkJ 3 18 hS1 ?_; simp only [ly]
      refine tkJ 4 19 hS1 ?_; simp only [ly]
      refine tkJ 5 20 hS1 ?_; simp only [ly]
      refine tkJ 6 21 hS1 ?_; simp only [ly]
      refine tkM 7 22 hS1 ?_; simp only [ly]
      refine tkM 8 23 hS1 ?_; simp only [ly]
      refine tkM 9 24 hS1 ?_; simp only [ly]
      refine tkM 10 25 hS1 ?_; simp only [ly]
      refine tkM 11 26 hS1 ?_; simp only [ly]
      refine tkM 12 27 hS1 ?_; simp only [ly]
      refine tkM 13 28 hS1 ?_; simp only [ly]
      refine tkM 14 29 hS1 ?_; simp only [ly]
      refine tkM 15 30 hS1 ?_; simp only [ly]
      refine tkJ 16 31 hS1 ?_; simp only [ly]
      refine tkJ 17 32 hS1 ?_; simp only [ly]
      refine wpAnyH_done (by kernel_rfl) ?_ _
      go_wp2
      go_roundw
      case rel => exact ⟨1, by omega, by go_num, HF2, (show Hid _ from bel_next HB2.out hS1)⟩
      case measure => simp [intOf]; omega
     ·obtain ⟨kp, mp, hp, p0, _⟩ := HV2.out.at j (by omega)
      have HP := hide hp
      clear hp
      have hwj := wrapT (show j ≤ 9223372036854775807 by omega)
      have hj0 : ((j : Int)) + 1 < (n : Int) := by omega
      have hj1 : (j : Int) < (n : Int) := by omega
      have hj2 : (0 : Int) ≤ (j : Int) := by omega
      rcases hl : Op.bytesLess kp.toList k.toList with _ | _
      ·have HNO : Hid (chkT s = 1) := chkT_no (mayG_less HP.out HX.out hl)
       refine wp_region_held_drew (S := fun W => Below u.heap.size u W) (by kernel_rfl) ((Below.refl _ u).drew) (fun hS0 => ?_)
       refine tkL 0 15 hS0 ?h ?_; case h => (intro W hW; have e0 := bcell hW d0; have e1 := bcell hW d1; have e2 := bcell hW p0; clear hW; go_simp; try rfl); simp only [ly]
       refine wpAnyH_ready (rs := [1]) (by kernel_rfl) (by simp) ?_
       refine AllReadyH.cons rfl (fun K hK => ?_) AllReadyH.nil
       go_simp
       refine (cell10_any k m _).mono ?_
       rintro e w' ⟨rfl, hb⟩
       rw [show mayCe (k, m) = true from HM.out]
       refine hK.out _ _ ?hs34 (fun hS1 => ?_)
       case hs34 => exact bel_next hS0 hb
       clear hK K hb
       try simp only [ly]
       refine tkJ 2 17 hS1 ?_; simp only [ly]
       refine tkJ 3 18 hS1 ?_; simp only [ly]
       refine tkJ 4 19 hS1 ?_; simp only [ly]
       refine tkJ 5 20 hS1 ?_; simp only [ly]
       refine tkJ 6 21 hS1 ?_; simp only [ly]
       refine tkJ 7 22 hS1 ?_; simp only [ly]
       refine tkJ 8 23 hS1 ?_; simp only [ly]
       refine tkJ 9 24 hS1 ?_; simp only [ly]
       refine tkJ 10 25 hS1 ?_; simp only [ly]
       refine tkJ 11 26 hS1 ?_; simp only [ly]
       refine tkL 12 27 hS1 ?h ?_; case h => (intro W hW; have e0 := bcell hW d0; have e1 := bcell hW d1; have e2 := bcell hW p0; clear hW; go_simp; try rfl); simp only [ly]
       refine tkJ 13 28 hS1 ?_; simp only [ly]
       refine tkL 14 29 hS1 ?h ?_; case h => (intro W hW; have e0 := bcell hW d0; have e1 := bcell hW d1; have e2 := bcell hW p0; clear hW; go_simp; try rfl); simp only [ly]
       refine tkJ 15 30 hS1 ?_; simp only [ly]
       refine tkJ 16 31 hS1 ?_; simp only [ly]
       refine tkJ 17 32 hS1 ?_; simp only [ly]
       refine wpAnyH_done (by kernel_rfl) ?_ _
       go_wp2
       go_ret
       exact ⟨by simp [HNO.out], bel_next HB2.out hS1⟩
      ·have HF2 : Hid ((s.take (j + 1 + 1)).all mayCe = true ∧ SrtG kC (s.take (j + 1 + 1))) := stepGS HX.out HP.out HF.out HM.out hl
       refine wp_region_held_drew (S := fun W => Below u.heap.size u W) (by kernel_rfl) ((Below.refl _ u).drew) (fun hS0 => ?_)
       refine tkL 0 15 hS0 ?h ?_; case h => (intro W hW; have e0 := bcell hW d0; have e1 := bcell hW d1; have e2 := bcell hW p0; clear hW; go_simp; try rfl); simp only [ly]
       refine wpAnyH_ready (rs := [1]) (by kernel_rfl) (by simp) ?_
       refine AllReadyH.cons rfl (fun K hK => ?_) AllReadyH.nil
       go_simp
       refine (cell10_any k m _).mono ?_
       rintro e w' ⟨rfl, hb⟩
       rw [show mayCe (k, m) = true from HM.out]
       refine hK.out _ _ ?hs16 (fun hS1 => ?_)
       case hs16 => exact bel_next hS0 hb
       clear hK K hb
       try simp only [ly]
       refine tkJ 2 17 hS1 ?_; simp only [ly]
       refine tkJ 3 18 hS1 ?_; simp only [ly]
       refine tkJ 4 19 hS1 ?_; simp only [ly]
       refine tkJ 5 20 hS1 ?_; simp only [ly]
       refine tkJ 6 21 hS1 ?_; simp only [ly]
       refine tkJ 7 22 hS1 ?_; simp only [ly]
       refine tkJ 8 23 hS1 ?_; simp only [ly]
       refine tkJ 9 24 hS1 ?_; simp only [ly]
       refine tkJ 10 25 hS1 ?_; simp only [ly]
       refine tkJ 11 26 hS1 ?_; simp only [ly]
       refine tkL 12 27 hS1 ?h ?_; case h => (intro W hW; have e0 := bcell hW d0; have e1 := bcell hW d1; have e2 := bcell hW p0; clear hW; go_simp; try rfl); simp only [ly]
       refine tkJ 13 28 hS1 ?_; simp only [ly]
       refine tkL 14 29 hS1 ?h ?_; case h => (intro W hW; have e0 := bcell hW d0; have e1 := bcell hW d1; have e2 := bcell hW p0; clear hW; go_simp; try rfl); simp only [ly]
       refine tkJ 15 30 hS1 ?_; simp only [ly]
       refine tkJ 16 31 hS1 ?_; simp only [ly]
       refine tkJ 17 32 hS1 ?_; simp only [ly]
       refine wpAnyH_done (by kernel_rfl) ?_ _
       go_wp2
       go_roundw
       case rel => exact ⟨j + 1 + 1, by omega, by go_num, HF2, (show Hid _ from bel_next HB2.out hS1)⟩
       case measure => simp [intOf]; omega
   ·obtain rfl : k0 = n := by omega
    have HR : Hid (chkT s = 0) := by
     have h := HF.out
     rw [← HLEN.out, List.take_length] at h
     refine chkT_yes (mayG_iff.2 ⟨by simpa using h.1, h.2, by rw [HLEN.out]; omega⟩)
    clear HF
    go_wp2
    go_ret
    exact ⟨by simp [HR.out], HB.out⟩
end Go.Proofs.YtkbbegbpkndebaaGreat

/- The document's Add of layer 11. -/
namespace Go.Proofs.YtkbbegbpkndebaaGreat
open Go.RowKit Go.Lib
set_option linter.unusedVariables false
theorem Tryz.infoAcc : (Tryz.prog.info? 134).map (fun i => (i.zero, i.size, i.bytes)) = some (some (.agg #[.string ⟨#[]⟩, .int .i64 0, .int .i64 0, .int .i64 0, .int .i64 0, .int .i64 0]), 6, 56) := by kernel_rfl
end Go.Proofs.YtkbbegbpkndebaaGreat

/- What comes into layer 11's statements. -/
namespace Go.Proofs.YtkbbegbpkndebaaGreat
open Go.RowKit Go.ChangeShapes Go.WideShapes
set_option linter.unusedVariables false
def accR : Rl Ac := fun _ cs x => cs = encA x ∧ x.2.length = 5
theorem Tryz.cellsAcc : Tryz.prog.cellsOf 134 = 6 := by kernel_rfl
theorem Tryz.cellsH5 : Tryz.prog.cellsOf 132 = 5 := by kernel_rfl
theorem Tryz.cellsI11 : Tryz.prog.cellsOf 3 = 1 := by kernel_rfl
theorem Tryz.cellsS11 : Tryz.prog.cellsOf 9 = 1 := by kernel_rfl
theorem Tryz.arr5 : Tryz.prog.underlying 132 = some (.array 5 3) := by kernel_rfl
theorem len6A {α : Type} (l : List α) (h : l.length = 6) : ∃ a b c d e f, l = [a, b, c, d, e, f] := by
 match l, h with
 | [a, b, c, d, e, f], _ => exact ⟨a, b, c, d, e, f, rfl⟩
theorem len5A {α : Type} (l : List α) (h : l.length = 5) : ∃ a b c d e, l = [a, b, c, d, e] := by
 match l, h with
 | [a, b, c, d, e], _ => exact ⟨a, b, c, d, e, rfl⟩
set_option maxRecDepth 100000 in
theorem open_acc : Opens 134 accR := by
 intro H enc W fuel cs y h
 obtain ⟨xs, k, hk, hxy, hcl, hxl, hf⟩ := DataW.trod_struct Tryz.underlying134 h
 rw [Tryz.cellsAcc] at hcl
 obtain ⟨v0, v1, v2, v3, v4, v5, rfl⟩ := len6A cs hcl
 obtain ⟨y0, y1, rfl⟩ := len2T xs hxl
 have g0 : DataW.trod enc Tryz.prog W 0 (fun _ => true) true k 9 (([v0, v1, v2, v3, v4, v5].drop 0).take (Tryz.prog.cellsOf 9)) = some y0 := hf 0 _ rfl
 have g1 : DataW.trod enc Tryz.prog W 0 (fun _ => true) true k 132 (([v0, v1, v2, v3, v4, v5].drop 1).take (Tryz.prog.cellsOf 132)) = some y1 := hf 1 _ rfl
 rw [Tryz.cellsS11] at g0
 rw [Tryz.cellsH5] at g1
 obtain ⟨zs, m, hm, hz, hzl, hzn, hz5⟩ := DataW.trod_array Tryz.arr5 g1
 obtain ⟨z0, z1, z2, z3, z4, rfl⟩ := len5A zs hzn
 obtain ⟨a0, h0⟩ := Opens.string Tryz.underlying9 _ _ _ _ _ _ g0
 have one : ∀ (i : Nat) (v : Value) (z : DataW H × List MemPlace), i < 5 → [v1, v2, v3, v4, v5][i]? = some v → [z0, z1, z2, z3, z4][i]? = some z → ∃ x : Int, v = .int .i64 x := by
  intro i v z hi hv hzz
  have q := hz5 i hi
  rw [hzz, Tryz.cellsI11] at q
  obtain ⟨x, hx⟩ := Opens.int Tryz.underlying3 _ _ _ _ _ _ q
  refine ⟨x, ?_⟩
  rcases (by omega : i = 0 ∨ i = 1 ∨ i = 2 ∨ i = 3 ∨ i = 4) with rfl | rfl | rfl | rfl | rfl <;> simp at hv <;> subst hv <;> simpa [intR] using hx
 obtain ⟨x1, rfl⟩ := one 0 _ _ (by omega) rfl rfl
 obtain ⟨x2, rfl⟩ := one 1 _ _ (by omega) rfl rfl
 obtain ⟨x3, rfl⟩ := one 2 _ _ (by omega) rfl rfl
 obtain ⟨x4, rfl⟩ := one 3 _ _ (by omega) rfl rfl
 obtain ⟨x5, rfl⟩ := one 4 _ _ (by omega) rfl rfl
 simp [strR] at h0
 exact ⟨(a0, [x1, x2, x3, x4, x5]), by rw [h0]; rfl, rfl⟩
theorem SR.ac {w : World} {a : Option Addr} {n : Nat} {s : List Ac} (h : SR 6 accR w a n s) : AC w a n s := by
 obtain ⟨h1, h2, h3⟩ := h
 refine ⟨⟨h1, h2, h3.imp id ?_⟩, ?_⟩
 ·rintro ⟨b, off, ha, hc⟩
  refine ⟨b, off, ha, fun i x hx j v hj => ?_⟩
  obtain ⟨r, _, hr, hcell⟩ := hc i x hx
  rw [hr.1] at hcell
  exact hcell j v hj
 ·intro x hx
  rcases h3 with h0 | ⟨b, off, ha, hc⟩
  ·rw [List.eq_nil_of_length_eq_zero (h1.trans h0)] at hx
   cases hx
  ·obtain ⟨i, hi⟩ := List.mem_iff_getElem?.1 hx
   obtain ⟨r, _, hr, _⟩ := hc i x hi
   exact hr.2
end Go.Proofs.YtkbbegbpkndebaaGreat

/- What layer 11's functions tell. -/
namespace Go.Proofs.YtkbbegbpkndebaaGreat
open Go.RowKit Go.Lib
set_option linter.unusedVariables false
def chk11 (s : List Ac) : Int := if mayA s = true then 0 else 1
theorem chk11_yes {s : List Ac} (h : mayA s = true) : chk11 s = 0 := by unfold chk11; rw [if_pos h]
theorem chk11_no {s : List Ac} (h : mayA s = false) : chk11 s = 1 := by unfold chk11; rw [h]; rfl
end Go.Proofs.YtkbbegbpkndebaaGreat

