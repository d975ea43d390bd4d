/- Texts of this claim, joined: GT3, GTa, GE4. -/
import Derived.Test.YtkbbegbpkndebaaGreatJ16
import Derived.Test.YtkbbegbpkndebaaGreatJ17
import Derived.Test.YtkbbegbpkndebaaGreatJ4
/- What comes into layer 10's statements. -/
namespace Go.Proofs.YtkbbegbpkndebaaGreat
open Go.RowKit Go.ChangeShapes Go.WideShapes
set_option linter.unusedVariables false
def celR : Rl Ce := fun _ cs x => cs = [.string x.1, .int .i64 x.2]
theorem Tryz.cellsCel : Tryz.prog.cellsOf 129 = 2 := by kernel_rfl
theorem Tryz.cellsI10 : Tryz.prog.cellsOf 3 = 1 := by kernel_rfl
theorem Tryz.cellsS10 : Tryz.prog.cellsOf 9 = 1 := by kernel_rfl
theorem len2T {α : Type} (l : List α) (h : l.length = 2) : ∃ a b, l = [a, b] := by
  match l, h with
  | [a, b], _ => exact ⟨a, b, rfl⟩
set_option maxRecDepth 100000 in
theorem open_cel : Opens 129 celR := by
  intro H enc W fuel cs y h
  obtain ⟨xs, k, hk, hxy, hcl, hxl, hf⟩ := DataW.trod_struct Tryz.underlying129 h
  rw [Tryz.cellsCel] at hcl
  obtain ⟨v0, v1, rfl⟩ := len2T cs hcl
  obtain ⟨y0, y1, rfl⟩ := len2T xs hxl
  have g0 : DataW.trod enc Tryz.prog W 0 (fun _ => true) true k 9 (([v0, v1].drop 0).take (Tryz.prog.cellsOf 9)) = some y0 := hf 0 _ rfl
  have g1 : DataW.trod enc Tryz.prog W 0 (fun _ => true) true k 3 (([v0, v1].drop 1).take (Tryz.prog.cellsOf 3)) = some y1 := hf 1 _ rfl
  rw [Tryz.cellsS10] at g0
  rw [Tryz.cellsI10] at g1
  obtain ⟨a0, h0⟩ := Opens.string Tryz.underlying9 _ _ _ _ _ _ g0
  obtain ⟨a1, h1⟩ := Opens.int Tryz.underlying3 _ _ _ _ _ _ g1
  simp [strR] at h0
  simp [intR] at h1
  exact ⟨(a0, a1), by rw [h0, h1]; rfl⟩
theorem SR.ts {w : World} {a : Option Addr} {n : Nat} {s : List Ce} (h : SR 2 celR w a n s) : TS w a n s := by
  obtain ⟨h1, h2, h3⟩ := h
  refine ⟨h1, h2, h3.imp id ?_⟩
  rintro ⟨b, off, ha, hc⟩
  refine ⟨b, off, ha, fun i x hx j v hj => ?_⟩
  obtain ⟨r, _, hr, hcell⟩ := hc i x hx
  rw [hr] at hcell
  exact hcell j v hj
/-- What a check tells. -/
def chkT (s : List Ce) : Int := if mayT s = true then 0 else 1
theorem chkT_yes {s : List Ce} (h : mayT s = true) : chkT s = 0 := by unfold chkT; rw [if_pos h]
theorem chkT_no {s : List Ce} (h : mayT s = false) : chkT s = 1 := by unfold chkT; rw [h]; rfl
end Go.Proofs.YtkbbegbpkndebaaGreat

/- What the program checks of a tally (layer 10). -/
namespace Go.Proofs.YtkbbegbpkndebaaGreat
open Go.RowKit Go.Lib
set_option linter.unusedVariables false
set_option maxHeartbeats 400000 in
theorem key10_any (k : ByteArray) (w : World) : Calls Tryz.prog 212 #[.string k] w fun e w' => e = .returned (.bool (mayK k)) ∧ Below w.heap.size w w' := by
  obtain ⟨b, hb⟩ : ∃ b, mayK k = b := ⟨_, rfl⟩
  rw [hb]
  have HB := hide hb
  clear hb
  by_cases h1 : (1 : Int) ≤ (k.size : Int)
  · by_cases h2 : (k.size : Int) ≤ 32
    · go_enter Tryz.func212, Tryz.ntmps212
      go_wp2
      go_ret
      refine ⟨?_, by first | exact Below.refl _ _ | go_grown⟩
      rw [← HB.out]
      simp [mayK]; omega
    · go_enter Tryz.func212, Tryz.ntmps212
      go_wp2
      go_ret
      refine ⟨?_, by first | exact Below.refl _ _ | go_grown⟩
      rw [← HB.out]
      simp [mayK]; omega
  · go_enter Tryz.func212, Tryz.ntmps212
    go_wp2
    go_ret
    refine ⟨?_, by first | exact Below.refl _ _ | go_grown⟩
    rw [← HB.out]
    simp [mayK]; omega
set_option maxHeartbeats 2000000 in
theorem cell10_any (k : ByteArray) (m : Int) (w : World) : Calls Tryz.prog 181 #[.agg #[.string k, .int .i64 m]] w fun e w' => e = .returned (.bool (mayCe (k, m))) ∧ Below w.heap.size w w' := by
  rcases h1 : mayK k with _ | _
  · have H1 := hide h1
    have HR : Hid (mayCe (k, m) = false) := by unfold Hid mayCe; simp only; rw [h1]; rfl
    clear h1
    go_enter Tryz.func181, Tryz.ntmps181
    go_wp2_with (go_at_call 212; refine (key10_any k _).mono ?_; rintro e w1 ⟨rfl, hb1⟩; rw [H1.out]; have d0 := bcell hb1 (cell_new w #[.string k, .int .i64 m] 129 _ rfl 0 _ rfl); have d1 := bcell hb1 (cell_new w #[.string k, .int .i64 m] 129 _ rfl 1 _ rfl); have BB := hide (bel_next (bel1 _ _) hb1); clear hb1; refine Stop.at ?_)
    unfold Stop
    go_wp2
    go_ret
    exact ⟨by rw [HR.out]; first | rfl | (simp; omega), BB.out⟩
  · have H1 := hide h1
    by_cases m0 : m = 0
    · have HR : Hid (mayCe (k, m) = false) := by unfold Hid; rw [Bool.eq_false_iff]; intro q; exact (mayCe_iff.1 q).2.1 m0
      clear h1
      subst m0
      go_enter Tryz.func181, Tryz.ntmps181
      go_wp2_with (go_at_call 212; refine (key10_any k _).mono ?_; rintro e w1 ⟨rfl, hb1⟩; rw [H1.out]; have d0 := bcell hb1 (cell_new w #[.string k, .int .i64 0] 129 _ rfl 0 _ rfl); have d1 := bcell hb1 (cell_new w #[.string k, .int .i64 0] 129 _ rfl 1 _ rfl); have BB := hide (bel_next (bel1 _ _) hb1); clear hb1; refine Stop.at ?_)
      unfold Stop
      go_wp2
      go_ret
      exact ⟨by rw [HR.out]; first | rfl | (simp; omega), BB.out⟩
    · by_cases m1 : m ≤ 1099511627776
      · by_cases m2 : -1099511627776 ≤ m
        · have HR : Hid (mayCe (k, m) = true) := mayCe_iff.2 ⟨h1, m0, m2, m1⟩
          clear h1
          have m3 : (m != 0) = true := by simpa using m0
          go_enter Tryz.func181, Tryz.ntmps181
          go_wp2_with (go_at_call 212; refine (key10_any k _).mono ?_; rintro e w1 ⟨rfl, hb1⟩; rw [H1.out]; have d0 := bcell hb1 (cell_new w #[.string k, .int .i64 m] 129 _ rfl 0 _ rfl); have d1 := bcell hb1 (cell_new w #[.string k, .int .i64 m] 129 _ rfl 1 _ rfl); have BB := hide (bel_next (bel1 _ _) hb1); clear hb1; refine Stop.at ?_)
          unfold Stop
          go_wp2
          go_ret
          exact ⟨by rw [HR.out]; first | rfl | (simp; omega), BB.out⟩
        · have HR : Hid (mayCe (k, m) = false) := by unfold Hid; rw [Bool.eq_false_iff]; intro q; exact m2 (mayCe_iff.1 q).2.2.1
          clear h1
          have m3 : (m != 0) = true := by simpa using m0
          go_enter Tryz.func181, Tryz.ntmps181
          go_wp2_with (go_at_call 212; refine (key10_any k _).mono ?_; rintro e w1 ⟨rfl, hb1⟩; rw [H1.out]; have d0 := bcell hb1 (cell_new w #[.string k, .int .i64 m] 129 _ rfl 0 _ rfl); have d1 := bcell hb1 (cell_new w #[.string k, .int .i64 m] 129 _ rfl 1 _ rfl); have BB := hide (bel_next (bel1 _ _) hb1); clear hb1; refine Stop.at ?_)
          unfold Stop
          go_wp2
          go_ret
          exact ⟨by rw [HR.out]; first | rfl | (simp; omega), BB.out⟩
      · have HR : Hid (mayCe (k, m) = false) := by unfold Hid; rw [Bool.eq_false_iff]; intro q; exact m1 (mayCe_iff.1 q).2.2.2
        clear h1
        have m3 : (m != 0) = true := by simpa using m0
        go_enter Tryz.func181, Tryz.ntmps181
        go_wp2_with (go_at_call 212; refine (key10_any k _).mono ?_; rintro e w1 ⟨rfl, hb1⟩; rw [H1.out]; have d0 := bcell hb1 (cell_new w #[.string k, .int .i64 m] 129 _ rfl 0 _ rfl); have d1 := bcell hb1 (cell_new w #[.string k, .int .i64 m] 129 _ rfl 1 _ rfl); have BB := hide (bel_next (bel1 _ _) hb1); clear hb1; refine Stop.at ?_)
        unfold Stop
        go_wp2
        go_ret
        exact ⟨by rw [HR.out]; first | rfl | (simp; omega), BB.out⟩
set_option maxHeartbeats 4000000 in
theorem Check10_any (a : Option Addr) (n cap : Nat) (s : List Ce) (w : World) (hA : TS w a n s) : Calls Tryz.prog 128 #[.slice a n cap] w fun e w' => e = .returned (.int .i64 (chkT s)) ∧ Below w.heap.size w w' := by
  have HV := hide hA
  have hmx := hA.2.1
  have HLEN := hide hA.1
  unfold maxLen at hmx
  clear hA
  by_cases hbig : (4000 : Int) < (n : Int)
  · have HR : Hid (chkT s = 1) := by
      unfold Hid chkT
      rw [if_neg]
      intro h
      have := (mayG_iff.1 h).2.2
      rw [HLEN.out] at this
      omega
    go_enter Tryz.func128, Tryz.ntmps128
    go_wp2
    go_ret
    exact ⟨by simp [HR.out], Below.refl _ _⟩
  · go_enter Tryz.func128, Tryz.ntmps128
    go_wp2
    go_loopw [10] (fun i wr => ∃ k : Nat, k ≤ n ∧ i = .int .i64 k ∧ Hid ((s.take k).all mayCe = true ∧ SrtG kC (s.take k)) ∧ Hid (Below w.heap.size w wr)) (fun i _ => n - (intOf i).toNat)
    case atStart => exact ⟨0, by omega, rfl, (show _ ∧ _ by simp [SrtG]), Below.refl _ _⟩
    case round =>
      obtain ⟨k0, hk, rfl, HF, HB⟩ := hrel
      by_cases hlt : k0 < n
      · obtain ⟨b, off, rfl⟩ := HV.out.addr (by omega)
        obtain ⟨k, m, hx, c0, c1⟩ := (HV.out.below HB.out).at k0 hlt
        have hk0 : (0 : Int) ≤ (k0 : Int) := by omega
        have hk1 : (k0 : Int) < (n : Int) := by omega
        have HX := hide hx
        clear hx
        go_upto_region 6 with fail
        have HB2 : Hid (Below w.heap.size w (wr.alloc (.cells #[.string k, .int .i64 m] 129))) := HB.out.alloc HB.out.size _
        have d0 := cell_new wr #[.string k, .int .i64 m] 129 _ rfl 0 _ rfl
        have d1 := cell_new wr #[.string k, .int .i64 m] 129 _ rfl 1 _ rfl
        generalize hgb : wr.heap.size = gb at *
        have HV2 := hide (HV.out.below HB2.out)
        clear c0 c1 HB
        generalize wr.alloc (.cells #[.string k, .int .i64 m] 129) = u at *
        clear hgb
        rcases hm : mayCe (k, m) with _ | _
        · have HM := hide hm
          have HNO : Hid (chkT s = 1) := chkT_no (mayG_no HX.out hm)
          clear hm
          refine wp_region_held_drew (S := fun W => Below u.heap.size u W) (by kernel_rfl) ((Below.refl _ u).drew) (fun hS0 => ?_)
          refine tkI 0 15 ?v1 rfl rfl hS0 ?hy1 ?_
          case hy1 => (intro W hW; have e0 := bcell hW d0; have e1 := bcell hW d1; clear hW; go_simp; try rfl)
          simp only [ly]
          refine wpAnyH_ready (rs := [1]) (by kernel_rfl) (by simp) ?_
          refine AllReadyH.cons rfl (fun K hK => ?_) AllReadyH.nil
          go_simp
          refine (cell10_any k m _).mono ?_
          rintro e w' ⟨rfl, hb⟩
          rw [show mayCe (k, m) = false from HM.out]
          refine hK.out _ _ ?hs2 (fun hS1 => ?_)
          case hs2 => exact bel_next hS0 hb
          clear hK K hb
          try simp only [ly]
          refine tkI 2 17 ?v3 rfl rfl hS1 ?hy3 ?_
          case hy3 => (intro W hW; clear hW; go_simp; try rfl)
          simp only [ly]
          refine tkI 3 18 ?v4 rfl rfl hS1 ?hy4 ?_
          case hy4 => (intro W hW; clear hW; go_simp; try rfl)
          simp only [ly]
          refine tkN 4 19 rfl rfl hS1 ?_
          simp only [ly]
          refine tkN 5 20 rfl rfl hS1 ?_
          simp only [ly]
          refine tkN 6 21 rfl rfl hS1 ?_
          simp only [ly]
          refine tkN 7 22 rfl rfl hS1 ?_
          simp only [ly]
          refine tkN 8 23 rfl rfl hS1 ?_
          simp only [ly]
          refine tkN 9 24 rfl rfl hS1 ?_
          simp only [ly]
          refine tkN 10 25 rfl rfl hS1 ?_
          simp only [ly]
          refine tkN 11 26 rfl rfl hS1 ?_
          simp only [ly]
          refine tkN 12 27 rfl rfl hS1 ?_
          simp only [ly]
          refine tkN 13 28 rfl rfl hS1 ?_
          simp only [ly]
          refine tkN 14 29 rfl rfl hS1 ?_
          simp only [ly]
          refine tkN 15 30 rfl rfl hS1 ?_
          simp only [ly]
          refine tkN 16 31 rfl rfl hS1 ?_
          simp only [ly]
          refine tkI 17 32 ?v5 rfl rfl hS1 ?hy5 ?_
          case hy5 => (intro W hW; clear hW; go_simp; try rfl)
          simp only [ly]
          refine wpAnyH_done (by kernel_rfl) ?_ _
          go_wp2
          go_ret
          exact ⟨by simp [HNO.out], bel_next HB2.out hS1⟩
        · have HM := hide hm
          clear hm
          rcases k0 with _ | j
          · have HF2 : Hid ((s.take (0 + 1)).all mayCe = true ∧ SrtG kC (s.take (0 + 1))) := stepG HX.out HF.out HM.out (fun j c h => by omega)
            simp only [Nat.zero_add] at HF2
            refine wp_region_held_drew (S := fun W => Below u.heap.size u W) (by kernel_rfl) ((Below.refl _ u).drew) (fun hS0 => ?_)
            refine tkI 0 15 ?v6 rfl rfl hS0 ?hy6 ?_
            case hy6 => (intro W hW; have e0 := bcell hW d0; have e1 := bcell hW d1; clear hW; go_simp; try rfl)
            simp only [ly]
            refine wpAnyH_ready (rs := [1]) (by kernel_rfl) (by simp) ?_
            refine AllReadyH.cons rfl (fun K hK => ?_) AllReadyH.nil
            go_simp
            refine (cell10_any k m _).mono ?_
            rintro e w' ⟨rfl, hb⟩
            rw [show mayCe (k, m) = true from HM.out]
            refine hK.out _ _ ?hs7 (fun hS1 => ?_)
            case hs7 => exact bel_next hS0 hb
            clear hK K hb
            try simp only [ly]
            refine tkI 2 17 ?v8 rfl rfl hS1 ?hy8 ?_
            case hy8 => (intro W hW; clear hW; go_simp; try rfl)
            simp only [ly]
            refine tkI 3 18 ?v9 rfl rfl hS1 ?hy9 ?_
            case hy9 => (intro W hW; clear hW; go_simp; try rfl)
            simp only [ly]
            refine tkI 4 19 ?v10 rfl rfl hS1 ?hy10 ?_
            case hy10 => (intro W hW; clear hW; go_simp; try rfl)
            simp only [ly]
            refine tkI 5 20 ?v11 rfl rfl hS1 ?hy11 ?_
            case hy11 => (intro W hW; clear hW; go_simp; try rfl)
            simp only [ly]
            refine tkI 6 21 ?v12 rfl rfl hS1 ?hy12 ?_
            case hy12 => (intro W hW; clear hW; go_simp; try rfl)
            simp only [ly]
            refine tkN 7 22 rfl rfl hS1 ?_
            simp only [ly]
            refine tkN 8 23 rfl rfl hS1 ?_
            simp only [ly]
            refine tkN 9 24 rfl rfl hS1 ?_
            simp only [ly]
            refine tkN 10 25 rfl rfl hS1 ?_
            simp only [ly]
            refine tkN 11 26 rfl rfl hS1 ?_
            simp only [ly]
            refine tkN 12 27 rfl rfl hS1 ?_
            simp only [ly]
            refine tkN 13 28 rfl rfl hS1 ?_
            simp only [ly]
            refine tkN 14 29 rfl rfl hS1 ?_
            simp only [ly]
            refine tkN 15 30 rfl rfl hS1 ?_
            simp only [ly]
            refine tkI 16 31 ?v13 rfl rfl hS1 ?hy13 ?_
            case hy13 => (intro W hW; clear hW; go_simp; try rfl)
            simp only [ly]
            refine tkI 17 32 ?v14 rfl rfl hS1 ?hy14 ?_
            case hy14 => (intro W hW; clear hW; go_simp; try rfl)
            simp only [ly]
            refine wpAnyH_done (by kernel_rfl) ?_ _
            go_wp2
            go_roundw
            case rel => exact ⟨1, by omega, by go_num, HF2, (show Hid _ from bel_next HB2.out hS1)⟩
            case measure => simp [intOf]; omega
          · obtain ⟨kp, mp, hp, p0, _⟩ := HV2.out.at j (by omega)
            have HP := hide hp
            clear hp
            have hwj := wrapT (show j ≤ 9223372036854775807 by omega)
            have hj0 : ((j : Int)) + 1 < (n : Int) := by omega
            have hj1 : (j : Int) < (n : Int) := by omega
            have hj2 : (0 : Int) ≤ (j : Int) := by omega
            rcases hl : Op.bytesLess kp.toList k.toList with _ | _
            · have HNO : Hid (chkT s = 1) := chkT_no (mayG_less HP.out HX.out hl)
              refine wp_region_held_drew (S := fun W => Below u.heap.size u W) (by kernel_rfl) ((Below.refl _ u).drew) (fun hS0 => ?_)
              refine tkI 0 15 ?v33 rfl rfl hS0 ?hy33 ?_
              case hy33 => (intro W hW; have e0 := bcell hW d0; have e1 := bcell hW d1; have e2 := bcell hW p0; clear hW; go_simp; try rfl)
              simp only [ly]
              refine wpAnyH_ready (rs := [1]) (by kernel_rfl) (by simp) ?_
              refine AllReadyH.cons rfl (fun K hK => ?_) AllReadyH.nil
              go_simp
              refine (cell10_any k m _).mono ?_
              rintro e w' ⟨rfl, hb⟩
              rw [show mayCe (k, m) = true from HM.out]
              refine hK.out _ _ ?hs34 (fun hS1 => ?_)
              case hs34 => exact bel_next hS0 hb
              clear hK K hb
              try simp only [ly]
              refine tkI 2 17 ?v35 rfl rfl hS1 ?hy35 ?_
              case hy35 => (intro W hW; clear hW; go_simp; try rfl)
              simp only [ly]
              refine tkI 3 18 ?v36 rfl rfl hS1 ?hy36 ?_
              case hy36 => (intro W hW; clear hW; go_simp; try rfl)
              simp only [ly]
              refine tkI 4 19 ?v37 rfl rfl hS1 ?hy37 ?_
              case hy37 => (intro W hW; clear hW; go_simp; try rfl)
              simp only [ly]
              refine tkI 5 20 ?v38 rfl rfl hS1 ?hy38 ?_
              case hy38 => (intro W hW; clear hW; go_simp; try rfl)
              simp only [ly]
              refine tkI 6 21 ?v39 rfl rfl hS1 ?hy39 ?_
              case hy39 => (intro W hW; clear hW; go_simp; try rfl)
              simp only [ly]
              refine tkI 7 22 ?v40 rfl rfl hS1 ?hy40 ?_
              case hy40 => (intro W hW; clear hW; go_simp; try rfl)
              simp only [ly]
              refine tkI 8 23 ?v41 rfl rfl hS1 ?hy41 ?_
              case hy41 => (intro W hW; clear hW; go_simp; try rfl)
              simp only [ly]
              refine tkI 9 24 ?v42 rfl rfl hS1 ?hy42 ?_
              case hy42 => (intro W hW; clear hW; go_simp; try rfl)
              simp only [ly]
              refine tkI 10 25 ?v43 rfl rfl hS1 ?hy43 ?_
              case hy43 => (intro W hW; clear hW; go_simp; try rfl)
              simp only [ly]
              refine tkI 11 26 ?v44 rfl rfl hS1 ?hy44 ?_
              case hy44 => (intro W hW; clear hW; go_simp; try rfl)
              simp only [ly]
              refine tkI 12 27 ?v45 rfl rfl hS1 ?hy45 ?_
              case hy45 => (intro W hW; have e0 := bcell hW d0; have e1 := bcell hW d1; have e2 := bcell hW p0; clear hW; go_simp; try rfl)
              simp only [ly]
              refine tkI 13 28 ?v46 rfl rfl hS1 ?hy46 ?_
              case hy46 => (intro W hW; clear hW; go_simp; try rfl)
              simp only [ly]
              refine tkI 14 29 ?v47 rfl rfl hS1 ?hy47 ?_
              case hy47 => (intro W hW; have e0 := bcell hW d0; have e1 := bcell hW d1; have e2 := bcell hW p0; clear hW; go_simp; try rfl)
              simp only [ly]
              refine tkI 15 30 ?v48 rfl rfl hS1 ?hy48 ?_
              case hy48 => (intro W hW; clear hW; go_simp; try rfl)
              simp only [ly]
              refine tkI 16 31 ?v49 rfl rfl hS1 ?hy49 ?_
              case hy49 => (intro W hW; clear hW; go_simp; try rfl)
              simp only [ly]
              refine tkI 17 32 ?v50 rfl rfl hS1 ?hy50 ?_
              case hy50 => (intro W hW; clear hW; go_simp; try rfl)
              simp only [ly]
              refine wpAnyH_done (by kernel_rfl) ?_ _
              go_wp2
              go_ret
              exact ⟨by simp [HNO.out], bel_next HB2.out hS1⟩
            · have HF2 : Hid ((s.take (j + 1 + 1)).all mayCe = true ∧ SrtG kC (s.take (j + 1 + 1))) := stepGS HX.out HP.out HF.out HM.out hl
              refine wp_region_held_drew (S := fun W => Below u.heap.size u W) (by kernel_rfl) ((Below.refl _ u).drew) (fun hS0 => ?_)
              refine tkI 0 15 ?v15 rfl rfl hS0 ?hy15 ?_
              case hy15 => (intro W hW; have e0 := bcell hW d0; have e1 := bcell hW d1; have e2 := bcell hW p0; clear hW; go_simp; try rfl)
              simp only [ly]
              refine wpAnyH_ready (rs := [1]) (by kernel_rfl) (by simp) ?_
              refine AllReadyH.cons rfl (fun K hK => ?_) AllReadyH.nil
              go_simp
              refine (cell10_any k m _).mono ?_
              rintro e w' ⟨rfl, hb⟩
              rw [show mayCe (k, m) = true from HM.out]
              refine hK.out _ _ ?hs16 (fun hS1 => ?_)
              case hs16 => exact bel_next hS0 hb
              clear hK K hb
              try simp only [ly]
              refine tkI 2 17 ?v17 rfl rfl hS1 ?hy17 ?_
              case hy17 => (intro W hW; clear hW; go_simp; try rfl)
              simp only [ly]
              refine tkI 3 18 ?v18 rfl rfl hS1 ?hy18 ?_
              case hy18 => (intro W hW; clear hW; go_simp; try rfl)
              simp only [ly]
              refine tkI 4 19 ?v19 rfl rfl hS1 ?hy19 ?_
              case hy19 => (intro W hW; clear hW; go_simp; try rfl)
              simp only [ly]
              refine tkI 5 20 ?v20 rfl rfl hS1 ?hy20 ?_
              case hy20 => (intro W hW; clear hW; go_simp; try rfl)
              simp only [ly]
              refine tkI 6 21 ?v21 rfl rfl hS1 ?hy21 ?_
              case hy21 => (intro W hW; clear hW; go_simp; try rfl)
              simp only [ly]
              refine tkI 7 22 ?v22 rfl rfl hS1 ?hy22 ?_
              case hy22 => (intro W hW; clear hW; go_simp; try rfl)
              simp only [ly]
              refine tkI 8 23 ?v23 rfl rfl hS1 ?hy23 ?_
              case hy23 => (intro W hW; clear hW; go_simp; try rfl)
              simp only [ly]
              refine tkI 9 24 ?v24 rfl rfl hS1 ?hy24 ?_
              case hy24 => (intro W hW; clear hW; go_simp; try rfl)
              simp only [ly]
              refine tkI 10 25 ?v25 rfl rfl hS1 ?hy25 ?_
              case hy25 => (intro W hW; clear hW; go_simp; try rfl)
              simp only [ly]
              refine tkI 11 26 ?v26 rfl rfl hS1 ?hy26 ?_
              case hy26 => (intro W hW; clear hW; go_simp; try rfl)
              simp only [ly]
              refine tkI 12 27 ?v27 rfl rfl hS1 ?hy27 ?_
              case hy27 => (intro W hW; have e0 := bcell hW d0; have e1 := bcell hW d1; have e2 := bcell hW p0; clear hW; go_simp; try rfl)
              simp only [ly]
              refine tkI 13 28 ?v28 rfl rfl hS1 ?hy28 ?_
              case hy28 => (intro W hW; clear hW; go_simp; try rfl)
              simp only [ly]
              refine tkI 14 29 ?v29 rfl rfl hS1 ?hy29 ?_
              case hy29 => (intro W hW; have e0 := bcell hW d0; have e1 := bcell hW d1; have e2 := bcell hW p0; clear hW; go_simp; try rfl)
              simp only [ly]
              refine tkI 15 30 ?v30 rfl rfl hS1 ?hy30 ?_
              case hy30 => (intro W hW; clear hW; go_simp; try rfl)
              simp only [ly]
              refine tkI 16 31 ?v31 rfl rfl hS1 ?hy31 ?_
              case hy31 => (intro W hW; clear hW; go_simp; try rfl)
              simp only [ly]
              refine tkI 17 32 ?v32 rfl rfl hS1 ?hy32 ?_
              case hy32 => (intro W hW; clear hW; go_simp; try rfl)
              simp only [ly]
              refine wpAnyH_done (by kernel_rfl) ?_ _
              go_wp2
              go_roundw
              case rel => exact ⟨j + 1 + 1, by omega, by go_num, HF2, (show Hid _ from bel_next HB2.out hS1)⟩
              case measure => simp [intOf]; omega
      · obtain rfl : k0 = n := by omega
        have HR : Hid (chkT s = 0) := by
          have h := HF.out
          rw [← HLEN.out, List.take_length] at h
          refine chkT_yes (mayG_iff.2 ⟨by simpa using h.1, h.2, by rw [HLEN.out]; omega⟩)
        clear HF
        go_wp2
        go_ret
        exact ⟨by simp [HR.out], HB.out⟩
end Go.Proofs.YtkbbegbpkndebaaGreat

/- The document's Add of layer 11. -/
namespace Go.Proofs.YtkbbegbpkndebaaGreat
open Go.RowKit Go.Lib
set_option linter.unusedVariables false
theorem Tryz.infoAcc : (Tryz.prog.info? 134).map (fun i => (i.zero, i.size, i.bytes)) = some (some (.agg #[.string ⟨#[]⟩, .int .i64 0, .int .i64 0, .int .i64 0, .int .i64 0, .int .i64 0]), 6, 56) := by kernel_rfl
end Go.Proofs.YtkbbegbpkndebaaGreat

