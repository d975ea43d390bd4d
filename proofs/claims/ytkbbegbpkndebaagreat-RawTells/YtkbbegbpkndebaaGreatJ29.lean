/- Texts of this claim, joined: GEa. -/
import Derived.Test.YtkbbegbpkndebaaGreatJ28
/- What the program checks of accounts (layer 11). -/
namespace Go.Proofs.YtkbbegbpkndebaaGreat
open Go.RowKit Go.Lib
set_option linter.unusedVariables false
set_option maxHeartbeats 400000 in
theorem key11_any (k : ByteArray) (w : World) : Calls Tryz.prog 200 #[.string k] w fun e w' => e = .returned (.bool (mayK k)) ∧ w' = w := by
 obtain ⟨b, hb⟩ : ∃ b, mayK k = b := ⟨_, rfl⟩
 rw [hb]
 have HB := hide hb
 clear hb
 by_cases h1 : (1 : Int) ≤ (k.size : Int)
 ·by_cases h2 : (k.size : Int) ≤ 32
  ·go_enter Tryz.func200, Tryz.ntmps200
   go_wp2
   go_ret
   refine ⟨?_, rfl⟩
   rw [← HB.out]
   simp [mayK]; omega
  ·go_enter Tryz.func200, Tryz.ntmps200
   go_wp2
   go_ret
   refine ⟨?_, rfl⟩
   rw [← HB.out]
   simp [mayK]; omega
 ·go_enter Tryz.func200, Tryz.ntmps200
  go_wp2
  go_ret
  refine ⟨?_, rfl⟩
  rw [← HB.out]
  simp [mayK]; omega
theorem nul_eq (g0 g1 g2 g3 g4 : Int) : (g0 == 0 && (g1 == 0 && (g2 == 0 && (g3 == 0 && g4 == 0)))) = !([g0, g1, g2, g3, g4].any nzA) := by
 rw [Bool.eq_iff_iff]
 simp [nzA]
set_option maxHeartbeats 1000000 in
theorem nought11_any (g0 g1 g2 g3 g4 : Int) (w : World) : Calls Tryz.prog 211 #[.agg #[.int .i64 g0, .int .i64 g1, .int .i64 g2, .int .i64 g3, .int .i64 g4]] w fun e w' => e = .returned (.bool (!([g0, g1, g2, g3, g4].any nzA))) ∧ Below w.heap.size w w' := by
 have HQ := hide (nul_eq g0 g1 g2 g3 g4)
 have hE : ∀ W, Sem.run Tryz.prog (Op.equalIn 10000 132 (.agg #[.int .i64 g0, .int .i64 g1, .int .i64 g2, .int .i64 g3, .int .i64 g4]) (.agg #[.int .i64 0, .int .i64 0, .int .i64 0, .int .i64 0, .int .i64 0])) W = .ok (g0 == 0 && (g1 == 0 && (g2 == 0 && (g3 == 0 && g4 == 0)))) W := fun W => eql5 9998 g0 g1 g2 g3 g4 0 0 0 0 0 W
 rw [HQ.out] at hE
 generalize (!([g0, g1, g2, g3, g4].any nzA)) = q at *
 clear HQ
 go_enter Tryz.func211, Tryz.ntmps211
 go_wp2
 go_ret
 exact ⟨rfl, by first | exact bel1 _ _ | go_grown⟩
theorem ix5_0 (g0 g1 g2 g3 g4 : Int) (W : World) : (Instr.index 132 (.agg #[.int .i64 g0, .int .i64 g1, .int .i64 g2, .int .i64 g3, .int .i64 g4]) (.int .i64 0)).run Tryz.prog W = .ok (.int .i64 g0) W := by kernel_rfl
theorem ix5_1 (g0 g1 g2 g3 g4 : Int) (W : World) : (Instr.index 132 (.agg #[.int .i64 g0, .int .i64 g1, .int .i64 g2, .int .i64 g3, .int .i64 g4]) (.int .i64 1)).run Tryz.prog W = .ok (.int .i64 g1) W := by kernel_rfl
theorem ix5_2 (g0 g1 g2 g3 g4 : Int) (W : World) : (Instr.index 132 (.agg #[.int .i64 g0, .int .i64 g1, .int .i64 g2, .int .i64 g3, .int .i64 g4]) (.int .i64 2)).run Tryz.prog W = .ok (.int .i64 g2) W := by kernel_rfl
theorem ix5_3 (g0 g1 g2 g3 g4 : Int) (W : World) : (Instr.index 132 (.agg #[.int .i64 g0, .int .i64 g1, .int .i64 g2, .int .i64 g3, .int .i64 g4]) (.int .i64 3)).run Tryz.prog W = .ok (.int .i64 g3) W := by kernel_rfl
theorem ix5_4 (g0 g1 g2 g3 g4 : Int) (W : World) : (Instr.index 132 (.agg #[.int .i64 g0, .int .i64 g1, .int .i64 g2, .int .i64 g3, .int .i64 g4]) (.int .i64 4)).run Tryz.prog W = .ok (.int .i64 g4) W := by kernel_rfl
theorem bd5 {g0 g1 g2 g3 g4 : Int} (h0 : -1099511627776 ≤ g0 ∧ g0 ≤ 1099511627776) (h1 : -1099511627776 ≤ g1 ∧ g1 ≤ 1099511627776) (h2 : -1099511627776 ≤ g2 ∧ g2 ≤ 1099511627776) (h3 : -1099511627776 ≤ g3 ∧ g3 ≤ 1099511627776) (h4 : -1099511627776 ≤ g4 ∧ g4 ≤ 1099511627776) : bd40 [g0, g1, g2, g3, g4] := by
 intro j
 rcases (by omega : j = 0 ∨ j = 1 ∨ j = 2 ∨ j = 3 ∨ j = 4 ∨ 5 ≤ j) with rfl | rfl | rfl | rfl | rfl | h
 ·exact h0
 ·exact h1
 ·exact h2
 ·exact h3
 ·exact h4
 ·unfold atH
  rw [List.getD_eq_getElem?_getD, List.getElem?_eq_none (by exact h)]
  exact ⟨by decide, by decide⟩
set_option maxHeartbeats 4000000 in
theorem acc11_any (k : ByteArray) (g0 g1 g2 g3 g4 : Int) (w : World) : Calls Tryz.prog 180 #[.agg #[.string k, .int .i64 g0, .int .i64 g1, .int .i64 g2, .int .i64 g3, .int .i64 g4]] w fun e w' => e = .returned (.bool (mayAc (k, [g0, g1, g2, g3, g4]))) ∧ Below w.heap.size w w' := by
 have ix0 := ix5_0 g0 g1 g2 g3 g4
 have ix1 := ix5_1 g0 g1 g2 g3 g4
 have ix2 := ix5_2 g0 g1 g2 g3 g4
 have ix3 := ix5_3 g0 g1 g2 g3 g4
 have ix4 := ix5_4 g0 g1 g2 g3 g4
 go_enter Tryz.func180, Tryz.ntmps180
 go_wp2
 refine wp_loop_rounds 6 ?_
 rw [rounds_succ]
 by_cases y0 : g0 ≤ 1099511627776
 ·by_cases x0 : -1099511627776 ≤ g0
  ·go_wp2
   rw [rounds_succ]
   by_cases y1 : g1 ≤ 1099511627776
   ·by_cases x1 : -1099511627776 ≤ g1
    ·go_wp2
     rw [rounds_succ]
     by_cases y2 : g2 ≤ 1099511627776
     ·by_cases x2 : -1099511627776 ≤ g2
      ·go_wp2
       rw [rounds_succ]
       by_cases y3 : g3 ≤ 1099511627776
       ·by_cases x3 : -1099511627776 ≤ g3
        ·go_wp2
         rw [rounds_succ]
         by_cases y4 : g4 ≤ 1099511627776
         ·by_cases x4 : -1099511627776 ≤ g4
          ·go_wp2
           rw [rounds_succ]
           have HIN : Hid ([g0, g1, g2, g3, g4].all in40 = true) := of_bd (bd5 ⟨x0, y0⟩ ⟨x1, y1⟩ ⟨x2, y2⟩ ⟨x3, y3⟩ ⟨x4, y4⟩)
           rcases hk : mayK k with _ | _
           ·have HKY := hide hk
            have HNO : Hid (mayAc (k, [g0, g1, g2, g3, g4]) = false) := mayAc_key hk
            clear hk
            go_wp2_with (go_at_call 200; refine (key11_any k _).mono ?_; rintro e w1 ⟨rfl, rfl⟩; rw [HKY.out])
            go_ret
            exact ⟨by rw [HNO.out]; first | rfl | (simp; omega), by first | exact bel1 _ _ | go_grown⟩
           ·have HKY := hide hk
            rcases hz : [g0, g1, g2, g3, g4].any nzA with _ | _
            ·have HNZ := hide hz
             have HNO : Hid (mayAc (k, [g0, g1, g2, g3, g4]) = false) := by unfold Hid mayAc; simp only; rw [hz, Bool.and_false]
             clear hk hz
             go_wp2_with (first | (go_at_call 200; refine (key11_any k _).mono ?_; rintro e w1 ⟨rfl, rfl⟩; rw [HKY.out]) | (go_at_call 211; refine (nought11_any g0 g1 g2 g3 g4 _).mono ?_; rintro e w2 ⟨rfl, hb2⟩; rw [HNZ.out]; have BB := hide (bel_next (bel1 _ _) hb2); clear hb2))
             go_ret
             exact ⟨by rw [HNO.out]; first | rfl | (simp; omega), BB.out⟩
            ·have HNZ := hide hz
             have HYES : Hid (mayAc (k, [g0, g1, g2, g3, g4]) = true) := mayAc_iff.2 ⟨hk, rfl, HIN.out, hz⟩
             clear hk hz
             go_wp2_with (first | (go_at_call 200; refine (key11_any k _).mono ?_; rintro e w1 ⟨rfl, rfl⟩; rw [HKY.out]) | (go_at_call 211; refine (nought11_any g0 g1 g2 g3 g4 _).mono ?_; rintro e w2 ⟨rfl, hb2⟩; rw [HNZ.out]; have BB := hide (bel_next (bel1 _ _) hb2); clear hb2))
             go_ret
             exact ⟨by rw [HYES.out]; first | rfl | (simp; omega), BB.out⟩
          ·skip
           have HNO : Hid (mayAc (k, [g0, g1, g2, g3, g4]) = false) := mayAc_big (j := 4) (by show ¬ (-1099511627776 ≤ g4 ∧ g4 ≤ 1099511627776); omega)
           go_wp2
           go_ret
           exact ⟨by rw [HNO.out]; first | rfl | (simp; omega), by first | exact bel1 _ _ | go_grown⟩
         ·skip
          have HNO : Hid (mayAc (k, [g0, g1, g2, g3, g4]) = false) := mayAc_big (j := 4) (by show ¬ (-1099511627776 ≤ g4 ∧ g4 ≤ 1099511627776); omega)
          go_wp2
          go_ret
          exact ⟨by rw [HNO.out]; first | rfl | (simp; omega), by first | exact bel1 _ _ | go_grown⟩
        ·skip
         have HNO : Hid (mayAc (k, [g0, g1, g2, g3, g4]) = false) := mayAc_big (j := 3) (by show ¬ (-1099511627776 ≤ g3 ∧ g3 ≤ 1099511627776); omega)
         go_wp2
         go_ret
         exact ⟨by rw [HNO.out]; first | rfl | (simp; omega), by first | exact bel1 _ _ | go_grown⟩
       ·skip
        have HNO : Hid (mayAc (k, [g0, g1, g2, g3, g4]) = false) := mayAc_big (j := 3) (by show ¬ (-1099511627776 ≤ g3 ∧ g3 ≤ 1099511627776); omega)
        go_wp2
        go_ret
        exact ⟨by rw [HNO.out]; first | rfl | (simp; omega), by first | exact bel1 _ _ | go_grown⟩
      ·skip
       have HNO : Hid (mayAc (k, [g0, g1, g2, g3, g4]) = false) := mayAc_big (j := 2) (by show ¬ (-1099511627776 ≤ g2 ∧ g2 ≤ 1099511627776); omega)
       go_wp2
       go_ret
       exact ⟨by rw [HNO.out]; first | rfl | (simp; omega), by first | exact bel1 _ _ | go_grown⟩
     ·skip
      have HNO : Hid (mayAc (k, [g0, g1, g2, g3, g4]) = false) := mayAc_big (j := 2) (by show ¬ (-1099511627776 ≤ g2 ∧ g2 ≤ 1099511627776); omega)
      go_wp2
      go_ret
      exact ⟨by rw [HNO.out]; first | rfl | (simp; omega), by first | exact bel1 _ _ | go_grown⟩
    ·skip
     have HNO : Hid (mayAc (k, [g0, g1, g2, g3, g4]) = false) := mayAc_big (j := 1) (by show ¬ (-1099511627776 ≤ g1 ∧ g1 ≤ 1099511627776); omega)
     go_wp2
     go_ret
     exact ⟨by rw [HNO.out]; first | rfl | (simp; omega), by first | exact bel1 _ _ | go_grown⟩
   ·skip
    have HNO : Hid (mayAc (k, [g0, g1, g2, g3, g4]) = false) := mayAc_big (j := 1) (by show ¬ (-1099511627776 ≤ g1 ∧ g1 ≤ 1099511627776); omega)
    go_wp2
    go_ret
    exact ⟨by rw [HNO.out]; first | rfl | (simp; omega), by first | exact bel1 _ _ | go_grown⟩
  ·skip
   have HNO : Hid (mayAc (k, [g0, g1, g2, g3, g4]) = false) := mayAc_big (j := 0) (by show ¬ (-1099511627776 ≤ g0 ∧ g0 ≤ 1099511627776); omega)
   go_wp2
   go_ret
   exact ⟨by rw [HNO.out]; first | rfl | (simp; omega), by first | exact bel1 _ _ | go_grown⟩
 ·skip
  have HNO : Hid (mayAc (k, [g0, g1, g2, g3, g4]) = false) := mayAc_big (j := 0) (by show ¬ (-1099511627776 ≤ g0 ∧ g0 ≤ 1099511627776); omega)
  go_wp2
  go_ret
  exact ⟨by rw [HNO.out]; first | rfl | (simp; omega), by first | exact bel1 _ _ | go_grown⟩
set_option maxHeartbeats 8000000 in
theorem Check11_any (a : Option Addr) (n cap : Nat) (s : List Ac) (w : World) (hA : AC w a n s) : Calls Tryz.prog 127 #[.slice a n cap] w fun e w' => e = .returned (.int .i64 (chk11 s)) ∧ Below w.heap.size w w' := by
 have HV := hide hA
 have hmx := hA.1.2.1
 have HLEN := hide hA.1.1
 unfold maxLen at hmx
 clear hA
 by_cases hbig : (4000 : Int) < (n : Int)
 ·have HR : Hid (chk11 s = 1) := by
   unfold Hid chk11
   rw [if_neg]
   intro h
   have := (mayG_iff.1 h).2.2
   rw [HLEN.out] at this
   omega
  go_enter Tryz.func127, Tryz.ntmps127
  go_wp2
  go_ret
  exact ⟨by simp [HR.out], Below.refl _ _⟩
 ·go_enter Tryz.func127, Tryz.ntmps127
  go_wp2
  go_loopw [10] (fun i wr => ∃ k : Nat, k ≤ n ∧ i = .int .i64 k ∧ Hid ((s.take k).all mayAc = true ∧ SrtG kA (s.take k)) ∧ Hid (Below w.heap.size w wr)) (fun i _ => n - (intOf i).toNat)
  case atStart => exact ⟨0, by omega, rfl, (show _ ∧ _ by simp [SrtG]), Below.refl _ _⟩
  case round =>
   obtain ⟨k0, hk, rfl, HF, HB⟩ := hrel
   by_cases hlt : k0 < n
   ·obtain ⟨b, off, rfl⟩ := HV.out.addr (by omega)
    obtain ⟨k, g0, g1, g2, g3, g4, hx, c0, c1, c2, c3, c4, c5⟩ := (HV.out.below HB.out).five k0 hlt
    have hk0 : (0 : Int) ≤ (k0 : Int) := by omega
    have hk1 : (k0 : Int) < (n : Int) := by omega
    have HX := hide hx
    clear hx
    go_upto_region 6 with fail
    have HB2 : Hid (Below w.heap.size w (wr.alloc (.cells #[.string k, .int .i64 g0, .int .i64 g1, .int .i64 g2, .int .i64 g3, .int .i64 g4] 134))) := HB.out.alloc HB.out.size _
    have d0 := cell_new wr #[.string k, .int .i64 g0, .int .i64 g1, .int .i64 g2, .int .i64 g3, .int .i64 g4] 134 _ rfl 0 _ rfl
    have d1 := cell_new wr #[.string k, .int .i64 g0, .int .i64 g1, .int .i64 g2, .int .i64 g3, .int .i64 g4] 134 _ rfl 1 _ rfl
    have d2 := cell_new wr #[.string k, .int .i64 g0, .int .i64 g1, .int .i64 g2, .int .i64 g3, .int .i64 g4] 134 _ rfl 2 _ rfl
    have d3 := cell_new wr #[.string k, .int .i64 g0, .int .i64 g1, .int .i64 g2, .int .i64 g3, .int .i64 g4] 134 _ rfl 3 _ rfl
    have d4 := cell_new wr #[.string k, .int .i64 g0, .int .i64 g1, .int .i64 g2, .int .i64 g3, .int .i64 g4] 134 _ rfl 4 _ rfl
    have d5 := cell_new wr #[.string k, .int .i64 g0, .int .i64 g1, .int .i64 g2, .int .i64 g3, .int .i64 g4] 134 _ rfl 5 _ rfl
    generalize hgb : wr.heap.size = gb at *
    have HV2 := hide (HV.out.below HB2.out)
    clear c0 c1 c2 c3 c4 c5 HB
    generalize wr.alloc (.cells #[.string k, .int .i64 g0, .int .i64 g1, .int .i64 g2, .int .i64 g3, .int .i64 g4] 134) = u at *
    clear hgb
    rcases hm : mayAc (k, [g0, g1, g2, g3, g4]) with _ | _
    ·have HM := hide hm
     have HNO : Hid (chk11 s = 1) := chk11_no (mayG_no HX.out hm)
     clear hm
     refine wp_region_held_drew (S := fun W => Below u.heap.size u W) (by kernel_rfl) ((Below.refl _ u).drew) (fun hS0 => ?_)
     refine tkL 0 15 hS0 ?h ?_; case h => (intro W hW; have e0 := bcell hW d0; have e1 := bcell hW d1; have e2 := bcell hW d2; have e3 := bcell hW d3; have e4 := bcell hW d4; have e5 := bcell hW d5; clear hW; go_simp; try rfl); simp only [ly]
     refine wpAnyH_ready (rs := [1]) (by kernel_rfl) (by simp) ?_
     refine AllReadyH.cons rfl (fun K hK => ?_) AllReadyH.nil
     go_simp
     refine (acc11_any k g0 g1 g2 g3 g4 _).mono ?_
     rintro e w' ⟨rfl, hb⟩
     rw [show mayAc (k, [g0, g1, g2, g3, g4]) = false from HM.out]
     refine hK.out _ _ ?hs2 (fun hS1 => ?_)
     case hs2 => exact bel_next hS0 hb
     clear hK K hb
     try simp only [ly]
     refine tkJ 2 17 hS1 ?_; simp only [ly]
     refine tkJ 3 18 hS1 ?_; simp only [ly]
     refine tkM 4 19 hS1 ?_; simp only [ly]
     refine tkM 5 20 hS1 ?_; simp only [ly]
     refine tkM 6 21 hS1 ?_; simp only [ly]
     refine tkM 7 22 hS1 ?_; simp only [ly]
     refine tkM 8 23 hS1 ?_; simp only [ly]
     refine tkM 9 24 hS1 ?_; simp only [ly]
     refine tkM 10 25 hS1 ?_; simp only [ly]
     refine tkM 11 26 hS1 ?_; simp only [ly]
     refine tkM 12 27 hS1 ?_; simp only [ly]
     refine tkM 13 28 hS1 ?_; simp only [ly]
     refine tkM 14 29 hS1 ?_; simp only [ly]
     refine tkM 15 30 hS1 ?_; simp only [ly]
     refine tkM 16 31 hS1 ?_; simp only [ly]
     refine tkJ 17 32 hS1 ?_; simp only [ly]
     refine wpAnyH_done (by kernel_rfl) ?_ _
     go_wp2
     go_ret
     exact ⟨by simp [HNO.out], bel_next HB2.out hS1⟩
    ·have HM := hide hm
     clear hm
     rcases k0 with _ | j
     ·have HF2 : Hid ((s.take (0 + 1)).all mayAc = true ∧ SrtG kA (s.take (0 + 1))) := stepG HX.out HF.out HM.out (fun j c h => by omega)
      simp only [Nat.zero_add] at HF2
      refine wp_region_held_drew (S := fun W => Below u.heap.size u W) (by kernel_rfl) ((Below.refl _ u).drew) (fun hS0 => ?_)
      refine tkL 0 15 hS0 ?h ?_; case h => (intro W hW; have e0 := bcell hW d0; have e1 := bcell hW d1; have e2 := bcell hW d2; have e3 := bcell hW d3; have e4 := bcell hW d4; have e5 := bcell hW d5; clear hW; go_simp; try rfl); simp only [ly]
      refine wpAnyH_ready (rs := [1]) (by kernel_rfl) (by simp) ?_
      refine AllReadyH.cons rfl (fun K hK => ?_) AllReadyH.nil
      go_simp
      refine (acc11_any k g0 g1 g2 g3 g4 _).mono ?_
      rintro e w' ⟨rfl, hb⟩
      rw [show mayAc (k, [g0, g1, g2, g3, g4]) = true from HM.out]
      refine hK.out _ _ ?hs7 (fun hS1 => ?_)
      case hs7 => exact bel_next hS0 hb
      clear hK K hb
      try simp only [ly]
      refine tkJ 2 17 hS1 ?_; simp only [ly]
      refine tkJ 3 18 hS1 ?_; simp only [ly]
      refine tkJ 4 19 hS1 ?_; simp only [ly]
      refine tkJ 5 20 hS1 ?_; simp only [ly]
      refine tkJ 6 21 hS1 ?_; simp only [ly]
      refine tkM 7 22 hS1 ?_; simp only [ly]
      refine tkM 8 23 hS1 ?_; simp only [ly]
      refine tkM 9 24 hS1 ?_; simp only [ly]
      refine tkM 10 25 hS1 ?_; simp only [ly]
      refine tkM 11 26 hS1 ?_; simp only [ly]
      refine tkM 12 27 hS1 ?_; simp only [ly]
      refine tkM 13 28 hS1 ?_; simp only [ly]
      refine tkM 14 29 hS1 ?_; simp only [ly]
      refine tkM 15 30 hS1 ?_; simp only [ly]
      refine tkJ 16 31 hS1 ?_; simp only [ly]
      refine tkJ 17 32 hS1 ?_; simp only [ly]
      refine wpAnyH_done (by kernel_rfl) ?_ _
      go_wp2
      go_roundw
      case rel => exact ⟨1, by omega, by go_num, HF2, (show Hid _ from bel_next HB2.out hS1)⟩
      case measure => simp [intOf]; omega
     ·obtain ⟨kp, gp, hp, _, p0, _⟩ := HV2.out.at j (by omega)
      have HP := hide hp
      clear hp
      have hwj := wrapT (show j ≤ 9223372036854775807 by omega)
      have hj0 : ((j : Int)) + 1 < (n : Int) := by omega
      have hj1 : (j : Int) < (n : Int) := by omega
      have hj2 : (0 : Int) ≤ (j : Int) := by omega
      rcases hl : Op.bytesLess kp.toList k.toList with _ | _
      ·have HNO : Hid (chk11 s = 1) := chk11_no (mayG_less HP.out HX.out hl)
       refine wp_region_held_drew (S := fun W => Below u.heap.size u W) (by kernel_rfl) ((Below.refl _ u).drew) (fun hS0 => ?_)
       refine tkL 0 15 hS0 ?h ?_; case h => (intro W hW; have e0 := bcell hW d0; have e1 := bcell hW d1; have e2 := bcell hW d2; have e3 := bcell hW d3; have e4 := bcell hW d4; have e5 := bcell hW d5; have e6 := bcell hW p0; clear hW; go_simp; try rfl); simp only [ly]
       refine wpAnyH_ready (rs := [1]) (by kernel_rfl) (by simp) ?_
       refine AllReadyH.cons rfl (fun K hK => ?_) AllReadyH.nil
       go_simp
       refine (acc11_any k g0 g1 g2 g3 g4 _).mono ?_
       rintro e w' ⟨rfl, hb⟩
       rw [show mayAc (k, [g0, g1, g2, g3, g4]) = true from HM.out]
       refine hK.out _ _ ?hs34 (fun hS1 => ?_)
       case hs34 => exact bel_next hS0 hb
       clear hK K hb
       try simp only [ly]
       refine tkJ 2 17 hS1 ?_; simp only [ly]
       refine tkJ 3 18 hS1 ?_; simp only [ly]
       refine tkJ 4 19 hS1 ?_; simp only [ly]
       refine tkJ 5 20 hS1 ?_; simp only [ly]
       refine tkJ 6 21 hS1 ?_; simp only [ly]
       refine tkJ 7 22 hS1 ?_; simp only [ly]
       refine tkJ 8 23 hS1 ?_; simp only [ly]
       refine tkJ 9 24 hS1 ?_; simp only [ly]
       refine tkJ 10 25 hS1 ?_; simp only [ly]
       refine tkJ 11 26 hS1 ?_; simp only [ly]
       refine tkL 12 27 hS1 ?h ?_; case h => (intro W hW; have e0 := bcell hW d0; have e1 := bcell hW d1; have e2 := bcell hW d2; have e3 := bcell hW d3; have e4 := bcell hW d4; have e5 := bcell hW d5; have e6 := bcell hW p0; clear hW; go_simp; try rfl); simp only [ly]
       refine tkJ 13 28 hS1 ?_; simp only [ly]
       refine tkL 14 29 hS1 ?h ?_; case h => (intro W hW; have e0 := bcell hW d0; have e1 := bcell hW d1; have e2 := bcell hW d2; have e3 := bcell hW d3; have e4 := bcell hW d4; have e5 := bcell hW d5; have e6 := bcell hW p0; clear hW; go_simp; try rfl); simp only [ly]
       refine tkJ 15 30 hS1 ?_; simp only [ly]
       refine tkJ 16 31 hS1 ?_; simp only [ly]
       refine tkJ 17 32 hS1 ?_; simp only [ly]
       refine wpAnyH_done (by kernel_rfl) ?_ _
       go_wp2
       go_ret
       exact ⟨by simp [HNO.out], bel_next HB2.out hS1⟩
      ·have HF2 : Hid ((s.take (j + 1 + 1)).all mayAc = true ∧ SrtG kA (s.take (j + 1 + 1))) := stepGS HX.out HP.out HF.out HM.out hl
       refine wp_region_held_drew (S := fun W => Below u.heap.size u W) (by kernel_rfl) ((Below.refl _ u).drew) (fun hS0 => ?_)
       refine tkL 0 15 hS0 ?h ?_; case h => (intro W hW; have e0 := bcell hW d0; have e1 := bcell hW d1; have e2 := bcell hW d2; have e3 := bcell hW d3; have e4 := bcell hW d4; have e5 := bcell hW d5; have e6 := bcell hW p0; clear hW; go_simp; try rfl); simp only [ly]
       refine wpAnyH_ready (rs := [1]) (by kernel_rfl) (by simp) ?_
       refine AllReadyH.cons rfl (fun K hK => ?_) AllReadyH.nil
       go_simp
       refine (acc11_any k g0 g1 g2 g3 g4 _).mono ?_
       rintro e w' ⟨rfl, hb⟩
       rw [show mayAc (k, [g0, g1, g2, g3, g4]) = true from HM.out]
       refine hK.out _ _ ?hs16 (fun hS1 => ?_)
       case hs16 => exact bel_next hS0 hb
       clear hK K hb
       try simp only [ly]
       refine tkJ 2 17 hS1 ?_; simp only [ly]
       refine tkJ 3 18 hS1 ?_; simp only [ly]
       refine tkJ 4 19 hS1 ?_; simp only [ly]
       refine tkJ 5 20 hS1 ?_; simp only [ly]
       refine tkJ 6 21 hS1 ?_; simp only [ly]
       refine tkJ 7 22 hS1 ?_; simp only [ly]
       refine tkJ 8 23 hS1 ?_; simp only [ly]
       refine tkJ 9 24 hS1 ?_; simp only [ly]
       refine tkJ 10 25 hS1 ?_; simp only [ly]
       refine tkJ 11 26 hS1 ?_; simp only [ly]
       refine tkL 12 27 hS1 ?h ?_; case h => (intro W hW; have e0 := bcell hW d0; have e1 := bcell hW d1; have e2 := bcell hW d2; have e3 := bcell hW d3; have e4 := bcell hW d4; have e5 := bcell hW d5; have e6 := bcell hW p0; clear hW; go_simp; try rfl); simp only [ly]
       refine tkJ 13 28 hS1 ?_; simp only [ly]
       refine tkL 14 29 hS1 ?h ?_; case h => (intro W hW; have e0 := bcell hW d0; have e1 := bcell hW d1; have e2 := bcell hW d2; have e3 := bcell hW d3; have e4 := bcell hW d4; have e5 := bcell hW d5; have e6 := bcell hW p0; clear hW; go_simp; try rfl); simp only [ly]
       refine tkJ 15 30 hS1 ?_; simp only [ly]
       refine tkJ 16 31 hS1 ?_; simp only [ly]
       refine tkJ 17 32 hS1 ?_; simp only [ly]
       refine wpAnyH_done (by kernel_rfl) ?_ _
       go_wp2
       go_roundw
       case rel => exact ⟨j + 1 + 1, by omega, by go_num, HF2, (show Hid _ from bel_next HB2.out hS1)⟩
       case measure => simp [intOf]; omega
   ·obtain rfl : k0 = n := by omega
    have HR : Hid (chk11 s = 0) := by
     have h := HF.out
     rw [← HLEN.out, List.take_length] at h
     refine chk11_yes (mayG_iff.2 ⟨by simpa using h.1, h.2, by rw [HLEN.out]; omega⟩)
    clear HF
    go_wp2
    go_ret
    exact ⟨by simp [HR.out], HB.out⟩
end Go.Proofs.YtkbbegbpkndebaaGreat

