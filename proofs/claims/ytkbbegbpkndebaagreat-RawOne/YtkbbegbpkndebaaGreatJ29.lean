/- Texts of this claim, joined: Z8, Z9. -/
import Derived.Test.YtkbbegbpkndebaaGreatJ10
import Derived.Test.YtkbbegbpkndebaaGreatJ13
import Derived.Test.YtkbbegbpkndebaaGreatJ21
import Derived.Test.YtkbbegbpkndebaaGreatJ8
/- The program's places, copies, what a clock has not, and what it does to each key (layer 9). -/
namespace Go.Proofs.YtkbbegbpkndebaaGreat
open Go.RowKit Go.Lib
set_option linter.unusedVariables false
set_option maxHeartbeats 2000000 in
set_option maxRecDepth 4000 in
theorem clone9_any (k : ByteArray) (pl : Option Addr) (nl cl : Nat) (pd : Option Addr) (nd cd : Nat) (l m : List Dot) (w : World) (hl : DS w pl nl l) (hm : DS w pd nd m) (h1 : nl ≤ 1000000) (h2 : nd ≤ 1000000) : Calls Tryz.prog 183 #[.agg #[.string k, .slice pl nl cl, .slice pd nd cd]] w fun e w' => ∃ v1 v2, e = .returned (.agg #[.string k, v1, v2]) ∧ OwnD w.heap.size w' v1 l ∧ OwnD w.heap.size w' v2 m ∧ Below w.heap.size w w' := by
  have B0 := hide (bel1 w (.cells #[.string k, .slice pl nl cl, .slice pd nd cd] 125))
  have BN := hide (bel1 (w.alloc (.cells #[.string k, .slice pl nl cl, .slice pd nd cd] 125)) (.cells #[.string ⟨#[]⟩, .slice none 0 0, .slice none 0 0] 125))
  have HX1 := hide ((BX.new w _ rfl #[.string k, .slice pl nl cl, .slice pd nd cd] 125).alloc (.cells #[.string ⟨#[]⟩, .slice none 0 0, .slice none 0 0] 125))
  have HX2 := hide (BX.new (w.alloc (.cells #[.string k, .slice pl nl cl, .slice pd nd cd] 125)) (w.heap.size + 1) (by simp) #[.string ⟨#[]⟩, .slice none 0 0, .slice none 0 0] 125)
  have HBU := hide (bel_next B0.out BN.out)
  have HNU0 : Hid (w.heap.size ≤ ((w.alloc (.cells #[.string k, .slice pl nl cl, .slice pd nd cd] 125)).alloc (.cells #[.string ⟨#[]⟩, .slice none 0 0, .slice none 0 0] 125)).heap.size) := HBU.out.size
  have HL := hide (hl.below HBU.out)
  have HM := hide (hm.below HBU.out)
  have HNU := HNU0
  clear hl hm B0 BN
  go_enter Tryz.func183, Tryz.ntmps183
  go_upto_region 1 with fail
  generalize (w.alloc (.cells #[.string k, .slice pl nl cl, .slice pd nd cd] 125)).alloc (.cells #[.string ⟨#[]⟩, .slice none 0 0, .slice none 0 0] 125) = u at *
  refine wp_region_held_drew (S := fun W => BX W w.heap.size #[.string k, .slice pl nl cl, .slice pd nd cd] 125) (by kernel_rfl) (HX1.out.drew) (fun hS0 => ?_)
  refine tkI 0 3 ?v1 rfl rfl hS0 ?hy1 ?_
  case hy1 => (intro W hW; clear hW; go_simp; try rfl)
  simp only [ly]
  refine tkI 1 4 ?v2 rfl rfl hS0 ?hy2 ?_
  case hy2 => (intro W hW; have e0 := hW.cell 0 _ rfl; have e1 := hW.cell 1 _ rfl; have e2 := hW.cell 2 _ rfl; clear hW; go_simp; try rfl)
  simp only [ly]
  refine tkI 2 5 ?v3 rfl rfl hS0 ?hy3 ?_
  case hy3 => (intro W hW; clear hW; go_simp; try rfl)
  simp only [ly]
  refine tkI 3 6 ?v4 rfl rfl hS0 ?hy4 ?_
  case hy4 => (intro W hW; have e0 := hW.cell 0 _ rfl; have e1 := hW.cell 1 _ rfl; have e2 := hW.cell 2 _ rfl; clear hW; go_simp; try rfl)
  simp only [ly]
  refine tkI 5 8 ?v5 rfl rfl hS0 ?hy5 ?_
  case hy5 => (intro W hW; clear hW; go_simp; try rfl)
  simp only [ly]
  refine tkI 6 9 ?v6 rfl rfl hS0 ?hy6 ?_
  case hy6 => (intro W hW; have e0 := hW.cell 0 _ rfl; have e1 := hW.cell 1 _ rfl; have e2 := hW.cell 2 _ rfl; clear hW; go_simp; try rfl)
  simp only [ly]
  refine wpAnyH_ready (rs := [4]) (by kernel_rfl) (by simp) ?_
  refine AllReadyH.cons rfl (fun K hK => ?_) AllReadyH.nil
  go_simp
  refine (cloneD_any pl nl cl l _ (HL.out.below (Below.refl _ u).drew) (by omega)).mono ?_
  rintro e w1 ⟨v1, rfl, ho1, hb1⟩
  obtain ⟨p1, r1, rfl, _, _⟩ := ho1.open
  have O1 := hide ho1
  have B1 := hide (bel_next (Below.refl _ u).drew hb1)
  have X2 := hide ((HX2.out.drew).below hb1)
  have BW := hS0.below hb1
  clear ho1 hb1
  refine hK.out _ _ ?hs7 (fun hS1 => ?_)
  case hs7 => exact BW
  clear hK K
  try simp only [ly]
  refine wpAnyH_ready (rs := [7]) (by kernel_rfl) (by simp) ?_
  refine AllReadyH.cons rfl (fun K hK => ?_) AllReadyH.nil
  go_simp
  refine (cloneD_any pd nd cd m _ (HM.out.below B1.out) (by omega)).mono ?_
  rintro e w2 ⟨v2, rfl, ho2, hb2⟩
  obtain ⟨p2, r2, rfl, _, _⟩ := ho2.open
  have O2 := hide ho2
  replace O1 := hide (O1.out.below hb2)
  have B2 := hide (bel_next B1.out hb2)
  replace X2 := hide (X2.out.below hb2)
  clear BW
  have BW := hS1.below hb2
  have hz1 := B1.out.size
  clear hb2 ho2
  refine hK.out _ _ ?hs8 (fun hS2 => ?_)
  case hs8 => exact BW
  clear hK K
  try simp only [ly]
  refine tkI 8 11 ?v9 rfl rfl hS2 ?hy9 ?_
  case hy9 => (intro W hW; clear hW; go_simp; try rfl)
  simp only [ly]
  refine wpAnyH_ready (rs := [9]) (by kernel_rfl) (by simp) ?_
  refine AllReadyH.cons rfl (fun K hK => ?_) AllReadyH.nil
  have f0 := X2.out.free 0
  have f1 := X2.out.free 1
  have f2 := X2.out.free 2
  have q0 := X2.out.cell 0 _ rfl
  have q1 := X2.out.cell 1 _ rfl
  have q2 := X2.out.cell 2 _ rfl
  obtain ⟨hp1, _, hp2, hp4⟩ := X2.out.put3 (.string k) (.slice p1 l.length r1) (.slice p2 m.length r2)
  have HP1 := hide hp1
  have off1 : (Value.slice p1 l.length r1).ownBlock ≠ some (w.heap.size + 1) := OwnR.off O1.out X2.out (by decide)
  have off2 : (Value.slice p2 m.length r2).ownBlock ≠ some (w.heap.size + 1) := OwnR.off O2.out X2.out (by decide)
  have HB3 := hide (hp2 _ _ (HBU.out.trans (B2.out.mono HNU.out)) (Nat.le_succ _))
  clear BW
  have BW := hp4 _ _ _ hS2 (by omega)
  replace O1 : Hid (OwnD w.heap.size _ (.slice p1 l.length r1) l) := ((((OwnR.set (OwnR.set (OwnR.set (OwnD.rows.1 O1.out) off1 0 (.string k)) off1 1 (.slice p1 l.length r1)) off1 2 (.slice p2 m.length r2)))).mono HNU0.out)
  replace O2 : Hid (OwnD w.heap.size _ (.slice p2 m.length r2) m) := ((((OwnR.set (OwnR.set (OwnR.set (OwnD.rows.1 O2.out) off2 0 (.string k)) off2 1 (.slice p1 l.length r1)) off2 2 (.slice p2 m.length r2)))).mono (Nat.le_trans HNU0.out hz1))
  clear hp1 hp2 hp4
  go_simp
  refine hK.out _ _ ?hs10 (fun hS3 => ?_)
  case hs10 => exact BW
  clear hK K
  try simp only [ly]
  refine wpAnyH_done (by kernel_rfl) ?_ _
  go_wp2
  refine bodyPost_ret (results_cell_row rfl _ _ _ _ _ _ _ rfl HP1.out Tryz.underlying125 rfl (by kernel_rfl)) rfl ?_
  exact ⟨_, _, rfl, O1.out, O2.out, HB3.out⟩
set_option maxHeartbeats 400000 in
theorem plf9_any (k : ByteArray) (pl : Option Addr) (nl cl : Nat) (pd : Option Addr) (nd cd : Nat) (w : World) : Calls Tryz.prog 139 #[.agg #[.string k, .slice pl nl cl, .slice pd nd cd]] w fun e w' => e = .returned (.agg #[.string k, .slice pl nl cl, .slice none 0 0]) ∧ Below w.heap.size w w' := by
  go_enter Tryz.func139, Tryz.ntmps139
  go_wp2
  refine bodyPost_ret (v := .agg #[.string k, .slice pl nl cl, .slice none 0 0]) (by simp [results, Tryz.results139, go_sem]) rfl ⟨rfl, ?_⟩
  exact (Below.refl _ _).alloc (Nat.le_refl _) _ |>.alloc (by simp) _
end Go.Proofs.YtkbbegbpkndebaaGreat

/- What the program does to each key; a key that it finds (layer 9). -/
namespace Go.Proofs.YtkbbegbpkndebaaGreat
open Go.RowKit Go.Lib
set_option linter.unusedVariables false
theorem map_take {f : Pr → Pr} {s : List En} {i : Nat} {x : En} (hx : s[i]? = some x) : mapP f (s.take (i + 1)) = mapP f (s.take i) ++ (if f x.2 = ([], []) then [] else [(x.1, f x.2)]) := by rw [take_snocL hx, mapP_snoc]
theorem mapP_len (f : Pr → Pr) (s : List En) : (mapP f s).length ≤ s.length := by
  unfold mapP
  exact Nat.le_trans (List.length_filter_le _ _) (by rw [List.length_map]; exact Nat.le_refl _)
set_option maxHeartbeats 4000000 in
set_option maxRecDepth 4000 in
theorem eachP9_any (a : Option Addr) (n cap : Nat) (s : List En) (w : World) (hA : NSS w a n s) (hn : n ≤ 4000) (hd : ∀ x ∈ s, x.2.1.length ≤ 900000 ∧ x.2.2.length ≤ 900000) : Calls Tryz.prog 138 #[.slice a n cap, .func (.func 139) #[] #[]] w fun e w' => ∃ v, e = .returned v ∧ ON w.heap.size w' v (mapP plainF s) ∧ Below w.heap.size w w' := by
  have HV := hide hA
  have HLEN := hide hA.len
  have HDD := hide hd
  clear hA hd
  go_enter Tryz.func138, Tryz.ntmps138
  go_wp2
  go_loopw [5, 11] (fun V i wr => ∃ k : Nat, k ≤ n ∧ i = .int .i64 k ∧ Hid (ON w.heap.size wr V (mapP plainF (s.take k))) ∧ Hid (Below w.heap.size w wr)) (fun _ i _ => n - (intOf i).toNat)
  case atStart => exact ⟨0, by omega, rfl, ON.nil _ _, Below.refl _ _⟩
  case round =>
    obtain ⟨k0, hk, rfl, HO, HB⟩ := hrel
    by_cases hlt : k0 < n
    · obtain ⟨b, off, rfl⟩ := HV.out.addr (by omega)
      obtain ⟨k, pl, nl, cl, pd, nd, cd, ll, mm, hx, c0, c1, c2, hl1, hl2, hm1, hm2⟩ := (HV.out.below HB.out).at k0 hlt
      have HX := hide hx
      have hk0 : (0 : Int) ≤ (k0 : Int) := by omega
      have hk1 : (k0 : Int) < (n : Int) := by omega
      have hmm := HDD.out _ (List.mem_of_getElem? hx)
      have hnl : nl ≤ 900000 := by rw [← hl1.1]; exact hmm.1
      have hnd : nd ≤ 900000 := by rw [← hm1.1]; exact hmm.2
      have hll : ll.length ≤ 900000 := hmm.1
      have hml : mm.length ≤ 900000 := hmm.2
      clear hx hmm
      go_upto_region 5 with fail
      have HBU := hide (bel1 wr (.cells #[.string k, .slice pl nl cl, .slice pd nd cd] 125))
      have HBX := hide (BX.new wr _ rfl #[.string k, .slice pl nl cl, .slice pd nd cd] 125)
      have HL := hide (hl1.below HBU.out)
      have HD := hide (hm1.below HBU.out)
      have HB2 : Hid (Below w.heap.size w (wr.alloc (.cells #[.string k, .slice pl nl cl, .slice pd nd cd] 125))) := HB.out.alloc HB.out.size _
      have HO2 := hide (HO.out.below HBU.out)
      have HN2 : Hid (w.heap.size ≤ (wr.alloc (.cells #[.string k, .slice pl nl cl, .slice pd nd cd] 125)).heap.size) := HB2.out.size
      have d0 := HBX.out.cell 0 _ rfl
      have d1 := HBX.out.cell 1 _ rfl
      have d2 := HBX.out.cell 2 _ rfl
      clear c0 c1 c2 HB HO hl1 hl2 hm1 hm2 HBU HBX
      generalize hgb : wr.heap.size = gb at *
      clear hgb
      generalize wr.alloc (.cells #[.string k, .slice pl nl cl, .slice pd nd cd] 125) = u at *
      go_wp2_with (go_at_call 183; refine (clone9_any k pl nl cl pd nd cd ll mm _ HL.out HD.out (by omega) (by omega)).mono ?_; rintro e w1 ⟨v1, v2, rfl, ho1, ho2, hb1⟩; have O1 := hide ho1; have O2 := hide ho2; have B1 := hide hb1; clear ho1 ho2 hb1; refine Stop.at ?_)
      unfold Stop
      obtain ⟨p1, r1, rfl, e1, e1c⟩ := O1.out.open
      obtain ⟨p2, r2, rfl, e2, e2c⟩ := O2.out.open
      have E1 := hide e1
      have E1c := hide e1c
      have E2 := hide e2
      have E2c := hide e2c
      clear e1 e1c e2 e2c d0 d1 d2
      generalize hg1 : ll.length = g1 at *
      generalize hg2 : mm.length = g2 at *
      have HG1 := hide hg1
      have HG2 := hide hg2
      clear hg1 hg2
      go_upto_region 6 with (go_at_call 139; refine (plf9_any k p1 g1 r1 p2 g2 r2 _).mono ?_; rintro e w2 ⟨rfl, hb2⟩)
      have B2 := hide (bel_next B1.out hb2)
      have G1 := hide (show DS w2 p1 g1 ll ∧ CP p1 g1 r1 ∧ Lo w.heap.size w2 (p1, g1, r1) from ⟨E1.out.below hb2, E1c.out, Lo.own (O1.out.below hb2)⟩)
      have G2 := hide (show DS w2 none 0 [] ∧ CP none 0 0 ∧ Lo w.heap.size w2 (none, 0, 0) from ⟨DS.nil _ _, ⟨Nat.le_refl _, by decide, fun _ => rfl⟩, Lo.none _ _⟩)
      clear hb2
      have x0 := cell_new w2 #[.string k, .slice p1 g1 r1, .slice none 0 0] 125 _ rfl 0 _ rfl
      have x1 := cell_new w2 #[.string k, .slice p1 g1 r1, .slice none 0 0] 125 _ rfl 1 _ rfl
      have x2 := cell_new w2 #[.string k, .slice p1 g1 r1, .slice none 0 0] 125 _ rfl 2 _ rfl
      have BA := hide (bel1 w2 (.cells #[.string k, .slice p1 g1 r1, .slice none 0 0] 125))
      replace G1 := hide (show DS _ p1 _ ll ∧ CP _ _ _ ∧ Lo w.heap.size _ (p1, g1, r1) from ⟨G1.out.1.below BA.out, G1.out.2.1, G1.out.2.2.below BA.out⟩)
      replace G2 := hide (show DS _ none _ [] ∧ CP _ _ _ ∧ Lo w.heap.size _ (none, 0, 0) from ⟨G2.out.1.below BA.out, G2.out.2.1, G2.out.2.2.below BA.out⟩)
      have HB3 : Hid (Below w.heap.size w (w2.alloc (.cells #[.string k, .slice p1 g1 r1, .slice none 0 0] 125))) := (HB2.out.trans (B2.out.mono HN2.out)).trans (BA.out.mono (Nat.le_trans HN2.out B2.out.size))
      have HO3 := hide (HO2.out.below (bel_next B2.out BA.out))
      have HN3 : Hid (w.heap.size ≤ (w2.alloc (.cells #[.string k, .slice p1 g1 r1, .slice none 0 0] 125)).heap.size) := HB3.out.size
      clear HO2 HB2 BA B2 HN2
      generalize hgc : w2.heap.size = gc at *
      clear hgc
      generalize w2.alloc (.cells #[.string k, .slice p1 g1 r1, .slice none 0 0] 125) = w3 at *
      rcases hnd0 : decide (g1 + 0 = 0) with _ | _
      · have HND := hide hnd0
        have hne := of_decide_eq_false hnd0
        clear hnd0
        have HM2 : Hid (mapP plainF (s.take (k0 + 1)) = mapP plainF (s.take k0) ++ [(k, ll, [])]) := by
          unfold Hid
          rw [map_take HX.out, if_neg]
          · rfl
          · intro q
            have q1 := congrArg (fun z => (Prod.fst z).length) q
            have q2 := congrArg (fun z => (Prod.snd z).length) q
            have e1 : (ll : List Dot).length = 0 := q1
            have e2 : ([] : List Dot).length = 0 := q2
            have := G1.out.1.1
            have := G2.out.1.1
            omega
        go_wp2_with (first | (go_at_call 184; refine (noth9_any k _ _ _ _ _ _ _).mono ?_; rintro e w4 ⟨rfl, hb4⟩; rw [HND.out]; have B4 := hide hb4; have d0 := bcell hb4 x0; have d1 := bcell hb4 x1; have d2 := bcell hb4 x2; clear hb4) | (at_builtin; refine Stop.at ?_))
        unfold Stop
        have BL := hide (bel1 w4 (.cells #[.string k, .slice p1 g1 r1, .slice none 0 0] 125))
        have BT := hide (bel_next B4.out BL.out)
        have HN4 : Hid (w.heap.size ≤ (w4.alloc (.cells #[.string k, .slice p1 g1 r1, .slice none 0 0] 125)).heap.size) := Nat.le_trans HN3.out BT.out.size
        refine append_en rfl _ _ rfl w.heap.size _ (mapP plainF (s.take k0)) [(k, ll, [])] rfl (HO3.out.below BT.out) (some ⟨w4.heap.size, 0, none⟩) 1 1 rfl (fun h => by cases h) [(k, (p1, g1, r1), (none, 0, 0))] (RSN.one w4 (k, (p1, g1, r1), (none, 0, 0)) _ rfl 125 (0, 0)) (Rels.one ⟨rfl, ⟨G1.out.1.below BT.out, G1.out.2.1⟩, G2.out.1.below BT.out, G2.out.2.1⟩) (fun y hy => by
          rw [List.mem_singleton] at hy
          subst hy
          exact ⟨G1.out.2.2.below BT.out, G2.out.2.2.below BT.out⟩) (by have := mapP_len plainF (s.take k0); rw [List.length_take, HLEN.out] at this; rw [List.length_singleton]; omega) HN4.out ?_
        intro v5 w5 ho5 _ hbel5
        have HO5 := hide ho5
        rw [← HM2.out] at HO5
        have HB5 := hide (hbel5 _ (HB3.out.trans (BT.out.mono HN3.out)))
        clear ho5 hbel5
        go_wp2
        go_roundw
        case rel => exact ⟨k0 + 1, by omega, by go_num, HO5, HB5⟩
        case measure => simp [intOf]; omega
      · have HND := hide hnd0
        have hne := of_decide_eq_true hnd0
        clear hnd0
        have HM2 : Hid (mapP plainF (s.take (k0 + 1)) = mapP plainF (s.take k0)) := by
          unfold Hid
          rw [map_take HX.out, if_pos, List.append_nil]
          have e1 : (ll : List Dot) = [] := List.eq_nil_of_length_eq_zero (by have := G1.out.1.1; omega)
          have e2 : ([] : List Dot) = [] := List.eq_nil_of_length_eq_zero (by have := G2.out.1.1; omega)
          exact Prod.ext e1 e2
        go_wp2_with (go_at_call 184; refine (noth9_any k _ _ _ _ _ _ _).mono ?_; rintro e w4 ⟨rfl, hb4⟩; rw [HND.out]; have B4 := hide hb4; clear hb4)
        go_roundw
        case rel => exact ⟨k0 + 1, by omega, by go_num, (show Hid _ by have := HO3.out.below B4.out; rwa [← HM2.out] at this), (show Hid _ from HB3.out.trans (B4.out.mono HN3.out))⟩
        case measure => simp [intOf]; omega
    · obtain rfl : k0 = n := by omega
      have HE : Hid (ON w.heap.size wr u5 (mapP plainF s)) := by have := HO.out; rwa [← HLEN.out, List.take_length] at this
      clear HO
      go_wp2
      go_ret
      exact ⟨_, rfl, HE.out, HB.out⟩
end Go.Proofs.YtkbbegbpkndebaaGreat

