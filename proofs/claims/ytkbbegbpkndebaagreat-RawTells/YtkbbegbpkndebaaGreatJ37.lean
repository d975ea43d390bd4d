/- Texts of this claim, joined: Z9. -/
import Derived.Test.YtkbbegbpkndebaaGreatJ36
/- What the program does to each key; a key that it finds (layer 9). -/
namespace Go.Proofs.YtkbbegbpkndebaaGreat
open Go.RowKit Go.Lib
set_option linter.unusedVariables false
set_option maxHeartbeats 1000000 in
theorem clf9_any (k : ByteArray) (pl : Option Addr) (nl cl : Nat) (pd : Option Addr) (nd cd : Nat) (m : List Dot) (g : Nat) (pa : Option Addr) (na ca : Nat) (c : List Int) (w : World) (hc : w.cell? ⟨g, 0, none⟩ = some (.slice pa na ca)) (hP : NS w pa na c) (hm : DS w pd nd m) (hn : nd ≤ 900000) : Calls Tryz.prog 141 #[.agg #[.string k, .slice pl nl cl, .slice pd nd cd], .pointer (some ⟨g, 0, none⟩)] w fun e w' => ∃ v, e = .returned (.agg #[.string k, .slice pl nl cl, v]) ∧ OwnD w.heap.size w' v (leftD m c) ∧ Below w.heap.size w w' := by
 have B0 := hide (bel1 w (.cells #[.string k, .slice pl nl cl, .slice pd nd cd] 125))
 have BN := hide (bel1 (w.alloc (.cells #[.string k, .slice pl nl cl, .slice pd nd cd] 125)) (.cells #[.string ⟨#[]⟩, .slice none 0 0, .slice none 0 0] 125))
 have HX1 := hide ((BX.new w _ rfl #[.string k, .slice pl nl cl, .slice pd nd cd] 125).alloc (.cells #[.string ⟨#[]⟩, .slice none 0 0, .slice none 0 0] 125))
 have HX2 := hide (BX.new (w.alloc (.cells #[.string k, .slice pl nl cl, .slice pd nd cd] 125)) (w.heap.size + 1) (by simp) #[.string ⟨#[]⟩, .slice none 0 0, .slice none 0 0] 125)
 have HBU := hide (bel_next B0.out BN.out)
 have HNU : Hid (w.heap.size ≤ ((w.alloc (.cells #[.string k, .slice pl nl cl, .slice pd nd cd] 125)).alloc (.cells #[.string ⟨#[]⟩, .slice none 0 0, .slice none 0 0] 125)).heap.size) := HBU.out.size
 have HM := hide (hm.below HBU.out)
 have HP := hide (hP.below HBU.out)
 have hc1 := bcell HBU.out hc
 clear hm hP B0 BN hc
 go_enter Tryz.func141, Tryz.ntmps141
 go_upto_region 1 with fail
 generalize (w.alloc (.cells #[.string k, .slice pl nl cl, .slice pd nd cd] 125)).alloc (.cells #[.string ⟨#[]⟩, .slice none 0 0, .slice none 0 0] 125) = u at *
 have d0 := HX1.out.cell 0 _ rfl
 have d1 := HX1.out.cell 1 _ rfl
 have d2 := HX1.out.cell 2 _ rfl
 go_upto_region 2 with (go_at_call 142; refine (unk9_any pd nd cd m pa na ca c _ HM.out HP.out hn).mono ?_; rintro e w1 ⟨v, rfl, ho, hb⟩; obtain ⟨p3, r3, rfl, _, _⟩ := ho.open; have O1 := hide ho; have B1 := hide hb; have X1 := hide (HX1.out.below hb); have X2 := hide (HX2.out.below hb); replace d0 := X1.out.cell 0 _ rfl; replace d1 := X1.out.cell 1 _ rfl; replace d2 := X1.out.cell 2 _ rfl; have f2 := X1.out.free 2; clear ho hb hc1)
 have off1 : (Value.slice p3 (leftD m c).length r3).ownBlock ≠ some w.heap.size := OwnR.off O1.out X1.out (by decide)
 have off2 : (Value.slice p3 (leftD m c).length r3).ownBlock ≠ some (w.heap.size + 1) := OwnR.off O1.out X2.out (by decide)
 obtain ⟨y1, y2⟩ := set1 X1.out (HBU.out.trans (B1.out.mono HNU.out)) (Nat.le_refl _) 2 (Value.slice p3 (leftD m c).length r3)
 have Y1 : Hid (BX (w1.setCell ⟨w.heap.size, 2, none⟩ (Value.slice p3 (leftD m c).length r3)) w.heap.size #[.string k, .slice pl nl cl, (Value.slice p3 (leftD m c).length r3)] 125) := y1
 have Y2 := hide (X2.out.other (show w.heap.size ≠ w.heap.size + 1 by omega) 2 (Value.slice p3 (leftD m c).length r3))
 have YB := hide y2
 have YO : Hid (OwnD u.heap.size (w1.setCell ⟨w.heap.size, 2, none⟩ (Value.slice p3 (leftD m c).length r3)) (Value.slice p3 (leftD m c).length r3) (leftD m c)) := OwnR.set (OwnD.rows.1 O1.out) off1 2 (Value.slice p3 (leftD m c).length r3)
 clear y1 y2 d0 d1 d2 f2 X1 X2 O1 B1 HX1 HX2 HM HP
 generalize w1.setCell ⟨w.heap.size, 2, none⟩ (Value.slice p3 (leftD m c).length r3) = w2 at *
 have d0 := Y1.out.cell 0 _ rfl
 have d1 := Y1.out.cell 1 _ rfl
 have d2 := Y1.out.cell 2 _ rfl
 have f0 := Y2.out.free 0
 have f1 := Y2.out.free 1
 have f2 := Y2.out.free 2
 have q0 := Y2.out.cell 0 _ rfl
 have q1 := Y2.out.cell 1 _ rfl
 have q2 := Y2.out.cell 2 _ rfl
 obtain ⟨hp1, _, hp2, _⟩ := Y2.out.put3 (.string k) (.slice pl nl cl) (Value.slice p3 (leftD m c).length r3)
 have HP1 := hide hp1
 have HP2 := hide (hp2 _ _ YB.out (Nat.le_succ _))
 have HO : Hid (OwnD w.heap.size _ (Value.slice p3 (leftD m c).length r3) (leftD m c)) := (OwnR.set (OwnR.set (OwnR.set (OwnD.rows.1 YO.out) off2 0 (.string k)) off2 1 (.slice pl nl cl)) off2 2 (Value.slice p3 (leftD m c).length r3)).mono HNU.out
 clear hp1 hp2 off1 off2
 go_wp2
 refine bodyPost_ret (results_cell_row rfl _ _ _ _ _ _ _ rfl HP1.out Tryz.underlying125 rfl (by kernel_rfl)) rfl ?_
 exact ⟨_, rfl, HO.out, HP2.out⟩
theorem map_take {f : Pr → Pr} {s : List En} {i : Nat} {x : En} (hx : s[i]? = some x) : mapP f (s.take (i + 1)) = mapP f (s.take i) ++ (if f x.2 = ([], []) then [] else [(x.1, f x.2)]) := by rw [take_snocL hx, mapP_snoc]
theorem mapP_len (f : Pr → Pr) (s : List En) : (mapP f s).length ≤ s.length := by
 unfold mapP
 exact Nat.le_trans (List.length_filter_le _ _) (by rw [List.length_map]; exact Nat.le_refl _)
set_option maxHeartbeats 4000000 in
set_option maxRecDepth 4000 in
theorem eachP9_any (a : Option Addr) (n cap : Nat) (s : List En) (w : World) (hA : NSS w a n s) (hn : n ≤ 4000) (hd : ∀ x ∈ s, x.2.1.length ≤ 900000 ∧ x.2.2.length ≤ 900000) : Calls Tryz.prog 138 #[.slice a n cap, .func (.func 139) #[] #[]] w fun e w' => ∃ v, e = .returned v ∧ ON w.heap.size w' v (mapP plainF s) ∧ Below w.heap.size w w' := by
 have HV := hide hA
 have HLEN := hide hA.len
 have HDD := hide hd
 clear hA hd
 go_enter Tryz.func138, Tryz.ntmps138
 go_wp2
 go_loopw [5, 11] (fun V i wr => ∃ k : Nat, k ≤ n ∧ i = .int .i64 k ∧ Hid (ON w.heap.size wr V (mapP plainF (s.take k))) ∧ Hid (Below w.heap.size w wr)) (fun _ i _ => n - (intOf i).toNat)
 case atStart => exact ⟨0, by omega, rfl, ON.nil _ _, Below.refl _ _⟩
 case round =>
  obtain ⟨k0, hk, rfl, HO, HB⟩ := hrel
  by_cases hlt : k0 < n
  ·obtain ⟨b, off, rfl⟩ := HV.out.addr (by omega)
   obtain ⟨k, pl, nl, cl, pd, nd, cd, ll, mm, hx, c0, c1, c2, hl1, hl2, hm1, hm2⟩ := (HV.out.below HB.out).at k0 hlt
   have HX := hide hx
   have hk0 : (0 : Int) ≤ (k0 : Int) := by omega
   have hk1 : (k0 : Int) < (n : Int) := by omega
   have hmm := HDD.out _ (List.mem_of_getElem? hx)
   have hnl : nl ≤ 900000 := by rw [← hl1.1]; exact hmm.1
   have hnd : nd ≤ 900000 := by rw [← hm1.1]; exact hmm.2
   have hll : ll.length ≤ 900000 := hmm.1
   have hml : mm.length ≤ 900000 := hmm.2
   clear hx hmm
   go_upto_region 5 with fail
   have HBU := hide (bel1 wr (.cells #[.string k, .slice pl nl cl, .slice pd nd cd] 125))
   have HBX := hide (BX.new wr _ rfl #[.string k, .slice pl nl cl, .slice pd nd cd] 125)
   have HL := hide (hl1.below HBU.out)
   have HD := hide (hm1.below HBU.out)
   have HB2 : Hid (Below w.heap.size w (wr.alloc (.cells #[.string k, .slice pl nl cl, .slice pd nd cd] 125))) := HB.out.alloc HB.out.size _
   have HO2 := hide (HO.out.below HBU.out)
   have HN2 : Hid (w.heap.size ≤ (wr.alloc (.cells #[.string k, .slice pl nl cl, .slice pd nd cd] 125)).heap.size) := HB2.out.size
   have d0 := HBX.out.cell 0 _ rfl
   have d1 := HBX.out.cell 1 _ rfl
   have d2 := HBX.out.cell 2 _ rfl
   clear c0 c1 c2 HB HO hl1 hl2 hm1 hm2 HBU HBX
   generalize hgb : wr.heap.size = gb at *
   clear hgb
   generalize wr.alloc (.cells #[.string k, .slice pl nl cl, .slice pd nd cd] 125) = u at *
   go_wp2_with (go_at_call 183; refine (clone9_any k pl nl cl pd nd cd ll mm _ HL.out HD.out (by omega) (by omega)).mono ?_; rintro e w1 ⟨v1, v2, rfl, ho1, ho2, hb1⟩; have O1 := hide ho1; have O2 := hide ho2; have B1 := hide hb1; clear ho1 ho2 hb1; refine Stop.at ?_)
   unfold Stop
   obtain ⟨p1, r1, rfl, e1, e1c⟩ := O1.out.open
   obtain ⟨p2, r2, rfl, e2, e2c⟩ := O2.out.open
   have E1 := hide e1
   have E1c := hide e1c
   have E2 := hide e2
   have E2c := hide e2c
   clear e1 e1c e2 e2c d0 d1 d2
   generalize hg1 : ll.length = g1 at *
   generalize hg2 : mm.length = g2 at *
   have HG1 := hide hg1
   have HG2 := hide hg2
   clear hg1 hg2
   go_upto_region 6 with (go_at_call 139; refine (plf9_any k p1 g1 r1 p2 g2 r2 _).mono ?_; rintro e w2 ⟨rfl, hb2⟩)
   have B2 := hide (bel_next B1.out hb2)
   have G1 := hide (show DS w2 p1 g1 ll ∧ CP p1 g1 r1 ∧ Lo w.heap.size w2 (p1, g1, r1) from ⟨E1.out.below hb2, E1c.out, Lo.own (O1.out.below hb2)⟩)
   have G2 := hide (show DS w2 none 0 [] ∧ CP none 0 0 ∧ Lo w.heap.size w2 (none, 0, 0) from ⟨DS.nil _ _, ⟨Nat.le_refl _, by decide, fun _ => rfl⟩, Lo.none _ _⟩)
   clear hb2
   have x0 := cell_new w2 #[.string k, .slice p1 g1 r1, .slice none 0 0] 125 _ rfl 0 _ rfl
   have x1 := cell_new w2 #[.string k, .slice p1 g1 r1, .slice none 0 0] 125 _ rfl 1 _ rfl
   have x2 := cell_new w2 #[.string k, .slice p1 g1 r1, .slice none 0 0] 125 _ rfl 2 _ rfl
   have BA := hide (bel1 w2 (.cells #[.string k, .slice p1 g1 r1, .slice none 0 0] 125))
   replace G1 := hide (show DS _ p1 _ ll ∧ CP _ _ _ ∧ Lo w.heap.size _ (p1, g1, r1) from ⟨G1.out.1.below BA.out, G1.out.2.1, G1.out.2.2.below BA.out⟩)
   replace G2 := hide (show DS _ none _ [] ∧ CP _ _ _ ∧ Lo w.heap.size _ (none, 0, 0) from ⟨G2.out.1.below BA.out, G2.out.2.1, G2.out.2.2.below BA.out⟩)
   have HB3 : Hid (Below w.heap.size w (w2.alloc (.cells #[.string k, .slice p1 g1 r1, .slice none 0 0] 125))) := (HB2.out.trans (B2.out.mono HN2.out)).trans (BA.out.mono (Nat.le_trans HN2.out B2.out.size))
   have HO3 := hide (HO2.out.below (bel_next B2.out BA.out))
   have HN3 : Hid (w.heap.size ≤ (w2.alloc (.cells #[.string k, .slice p1 g1 r1, .slice none 0 0] 125)).heap.size) := HB3.out.size
   clear HO2 HB2 BA B2 HN2
   generalize hgc : w2.heap.size = gc at *
   clear hgc
   generalize w2.alloc (.cells #[.string k, .slice p1 g1 r1, .slice none 0 0] 125) = w3 at *
   rcases hnd0 : decide (g1 + 0 = 0) with _ | _
   ·have HND := hide hnd0
    have hne := of_decide_eq_false hnd0
    clear hnd0
    have HM2 : Hid (mapP plainF (s.take (k0 + 1)) = mapP plainF (s.take k0) ++ [(k, ll, [])]) := by
     unfold Hid
     rw [map_take HX.out, if_neg]
     ·rfl
     ·intro q
      have q1 := congrArg (fun z => (Prod.fst z).length) q
      have q2 := congrArg (fun z => (Prod.snd z).length) q
      have e1 : (ll : List Dot).length = 0 := q1
      have e2 : ([] : List Dot).length = 0 := q2
      have := G1.out.1.1
      have := G2.out.1.1
      omega
    go_wp2_with (first | (go_at_call 184; refine (noth9_any k _ _ _ _ _ _ _).mono ?_; rintro e w4 ⟨rfl, hb4⟩; rw [HND.out]; have B4 := hide hb4; have d0 := bcell hb4 x0; have d1 := bcell hb4 x1; have d2 := bcell hb4 x2; clear hb4) | (at_builtin; refine Stop.at ?_))
    unfold Stop
    have BL := hide (bel1 w4 (.cells #[.string k, .slice p1 g1 r1, .slice none 0 0] 125))
    have BT := hide (bel_next B4.out BL.out)
    have HN4 : Hid (w.heap.size ≤ (w4.alloc (.cells #[.string k, .slice p1 g1 r1, .slice none 0 0] 125)).heap.size) := Nat.le_trans HN3.out BT.out.size
    refine append_en rfl _ _ rfl w.heap.size _ (mapP plainF (s.take k0)) [(k, ll, [])] rfl (HO3.out.below BT.out) (some ⟨w4.heap.size, 0, none⟩) 1 1 rfl (fun h => by cases h) [(k, (p1, g1, r1), (none, 0, 0))] (RSN.one w4 (k, (p1, g1, r1), (none, 0, 0)) _ rfl 125 (0, 0)) (Rels.one ⟨rfl, ⟨G1.out.1.below BT.out, G1.out.2.1⟩, G2.out.1.below BT.out, G2.out.2.1⟩) (fun y hy => by
     rw [List.mem_singleton] at hy
     subst hy
     exact ⟨G1.out.2.2.below BT.out, G2.out.2.2.below BT.out⟩) (by have := mapP_len plainF (s.take k0); rw [List.length_take, HLEN.out] at this; rw [List.length_singleton]; omega) HN4.out ?_
    intro v5 w5 ho5 _ hbel5
    have HO5 := hide ho5
    rw [← HM2.out] at HO5
    have HB5 := hide (hbel5 _ (HB3.out.trans (BT.out.mono HN3.out)))
    clear ho5 hbel5
    go_wp2
    go_roundw
    case rel => exact ⟨k0 + 1, by omega, by go_num, HO5, HB5⟩
    case measure => simp [intOf]; omega
   ·have HND := hide hnd0
    have hne := of_decide_eq_true hnd0
    clear hnd0
    have HM2 : Hid (mapP plainF (s.take (k0 + 1)) = mapP plainF (s.take k0)) := by
     unfold Hid
     rw [map_take HX.out, if_pos, List.append_nil]
     have e1 : (ll : List Dot) = [] := List.eq_nil_of_length_eq_zero (by have := G1.out.1.1; omega)
     have e2 : ([] : List Dot) = [] := List.eq_nil_of_length_eq_zero (by have := G2.out.1.1; omega)
     exact Prod.ext e1 e2
    go_wp2_with (go_at_call 184; refine (noth9_any k _ _ _ _ _ _ _).mono ?_; rintro e w4 ⟨rfl, hb4⟩; rw [HND.out]; have B4 := hide hb4; clear hb4)
    go_roundw
    case rel => exact ⟨k0 + 1, by omega, by go_num, (show Hid _ by have := HO3.out.below B4.out; rwa [← HM2.out] at this), (show Hid _ from HB3.out.trans (B4.out.mono HN3.out))⟩
    case measure => simp [intOf]; omega
  ·obtain rfl : k0 = n := by omega
   have HE : Hid (ON w.heap.size wr u5 (mapP plainF s)) := by have := HO.out; rwa [← HLEN.out, List.take_length] at this
   clear HO
   go_wp2
   go_ret
   exact ⟨_, rfl, HE.out, HB.out⟩
set_option maxHeartbeats 4000000 in
set_option maxRecDepth 4000 in
theorem eachC9_any (a : Option Addr) (n cap : Nat) (s : List En) (g : Nat) (pa : Option Addr) (na ca : Nat) (c : List Int) (w : World) (hA : NSS w a n s) (hn : n ≤ 4000) (hd : ∀ x ∈ s, x.2.1.length ≤ 900000 ∧ x.2.2.length ≤ 900000) (hc : w.cell? ⟨g, 0, none⟩ = some (.slice pa na ca)) (hP : NS w pa na c) : Calls Tryz.prog 138 #[.slice a n cap, .func (.func 141) #[] #[.pointer (some ⟨g, 0, none⟩)]] w fun e w' => ∃ v, e = .returned v ∧ ON w.heap.size w' v (mapP (cleanF c) s) ∧ Below w.heap.size w w' := by
 have HV := hide hA
 have HLEN := hide hA.len
 have HDD := hide hd
 have HC := hide hc
 have HP := hide hP
 clear hc hP
 clear hA hd
 go_enter Tryz.func138, Tryz.ntmps138
 go_wp2
 go_loopw [5, 11] (fun V i wr => ∃ k : Nat, k ≤ n ∧ i = .int .i64 k ∧ Hid (ON w.heap.size wr V (mapP (cleanF c) (s.take k))) ∧ Hid (Below w.heap.size w wr)) (fun _ i _ => n - (intOf i).toNat)
 case atStart => exact ⟨0, by omega, rfl, ON.nil _ _, Below.refl _ _⟩
 case round =>
  obtain ⟨k0, hk, rfl, HO, HB⟩ := hrel
  by_cases hlt : k0 < n
  ·obtain ⟨b, off, rfl⟩ := HV.out.addr (by omega)
   obtain ⟨k, pl, nl, cl, pd, nd, cd, ll, mm, hx, c0, c1, c2, hl1, hl2, hm1, hm2⟩ := (HV.out.below HB.out).at k0 hlt
   have HX := hide hx
   have hk0 : (0 : Int) ≤ (k0 : Int) := by omega
   have hk1 : (k0 : Int) < (n : Int) := by omega
   have hmm := HDD.out _ (List.mem_of_getElem? hx)
   have hnl : nl ≤ 900000 := by rw [← hl1.1]; exact hmm.1
   have hnd : nd ≤ 900000 := by rw [← hm1.1]; exact hmm.2
   have hll : ll.length ≤ 900000 := hmm.1
   have hml : mm.length ≤ 900000 := hmm.2
   clear hx hmm
   go_upto_region 5 with fail
   have HBU := hide (bel1 wr (.cells #[.string k, .slice pl nl cl, .slice pd nd cd] 125))
   have HBX := hide (BX.new wr _ rfl #[.string k, .slice pl nl cl, .slice pd nd cd] 125)
   have HL := hide (hl1.below HBU.out)
   have HD := hide (hm1.below HBU.out)
   have HB2 : Hid (Below w.heap.size w (wr.alloc (.cells #[.string k, .slice pl nl cl, .slice pd nd cd] 125))) := HB.out.alloc HB.out.size _
   have HO2 := hide (HO.out.below HBU.out)
   have HN2 : Hid (w.heap.size ≤ (wr.alloc (.cells #[.string k, .slice pl nl cl, .slice pd nd cd] 125)).heap.size) := HB2.out.size
   have d0 := HBX.out.cell 0 _ rfl
   have d1 := HBX.out.cell 1 _ rfl
   have d2 := HBX.out.cell 2 _ rfl
   clear c0 c1 c2 HB HO hl1 hl2 hm1 hm2 HBU HBX
   generalize hgb : wr.heap.size = gb at *
   clear hgb
   generalize wr.alloc (.cells #[.string k, .slice pl nl cl, .slice pd nd cd] 125) = u at *
   go_wp2_with (go_at_call 183; refine (clone9_any k pl nl cl pd nd cd ll mm _ HL.out HD.out (by omega) (by omega)).mono ?_; rintro e w1 ⟨v1, v2, rfl, ho1, ho2, hb1⟩; have O1 := hide ho1; have O2 := hide ho2; have B1 := hide hb1; clear ho1 ho2 hb1; refine Stop.at ?_)
   unfold Stop
   obtain ⟨p1, r1, rfl, e1, e1c⟩ := O1.out.open
   obtain ⟨p2, r2, rfl, e2, e2c⟩ := O2.out.open
   have E1 := hide e1
   have E1c := hide e1c
   have E2 := hide e2
   have E2c := hide e2c
   clear e1 e1c e2 e2c d0 d1 d2
   generalize hg1 : ll.length = g1 at *
   generalize hg2 : mm.length = g2 at *
   have HG1 := hide hg1
   have HG2 := hide hg2
   clear hg1 hg2
   go_upto_region 6 with (go_at_call 141; refine (clf9_any k p1 g1 r1 p2 g2 r2 mm g pa na ca c _ (bcell (HB2.out.trans (B1.out.mono HN2.out)) HC.out) (HP.out.below (HB2.out.trans (B1.out.mono HN2.out))) E2.out hml).mono ?_; rintro e w2 ⟨v3, rfl, ho3, hb2⟩; obtain ⟨p3, r3, rfl, e3, e3c⟩ := ho3.open)
   have B2 := hide (bel_next B1.out hb2)
   have G1 := hide (show DS w2 p1 g1 ll ∧ CP p1 g1 r1 ∧ Lo w.heap.size w2 (p1, g1, r1) from ⟨E1.out.below hb2, E1c.out, Lo.own (O1.out.below hb2)⟩)
   have G2 := hide (show DS w2 p3 (leftD mm c).length (leftD mm c) ∧ CP p3 (leftD mm c).length r3 ∧ Lo w.heap.size w2 (p3, (leftD mm c).length, r3) from ⟨e3, e3c, Lo.own ho3⟩)
   clear hb2 ho3 e3 e3c
   generalize hg3 : (leftD mm c).length = g3 at *
   have HG3 := hide hg3
   clear hg3
   have x0 := cell_new w2 #[.string k, .slice p1 g1 r1, .slice p3 g3 r3] 125 _ rfl 0 _ rfl
   have x1 := cell_new w2 #[.string k, .slice p1 g1 r1, .slice p3 g3 r3] 125 _ rfl 1 _ rfl
   have x2 := cell_new w2 #[.string k, .slice p1 g1 r1, .slice p3 g3 r3] 125 _ rfl 2 _ rfl
   have BA := hide (bel1 w2 (.cells #[.string k, .slice p1 g1 r1, .slice p3 g3 r3] 125))
   replace G1 := hide (show DS _ p1 _ ll ∧ CP _ _ _ ∧ Lo w.heap.size _ (p1, g1, r1) from ⟨G1.out.1.below BA.out, G1.out.2.1, G1.out.2.2.below BA.out⟩)
   replace G2 := hide (show DS _ p3 _ (leftD mm c) ∧ CP _ _ _ ∧ Lo w.heap.size _ (p3, g3, r3) from ⟨G2.out.1.below BA.out, G2.out.2.1, G2.out.2.2.below BA.out⟩)
   have HB3 : Hid (Below w.heap.size w (w2.alloc (.cells #[.string k, .slice p1 g1 r1, .slice p3 g3 r3] 125))) := (HB2.out.trans (B2.out.mono HN2.out)).trans (BA.out.mono (Nat.le_trans HN2.out B2.out.size))
   have HO3 := hide (HO2.out.below (bel_next B2.out BA.out))
   have HN3 : Hid (w.heap.size ≤ (w2.alloc (.cells #[.string k, .slice p1 g1 r1, .slice p3 g3 r3] 125)).heap.size) := HB3.out.size
   clear HO2 HB2 BA B2 HN2
   generalize hgc : w2.heap.size = gc at *
   clear hgc
   generalize w2.alloc (.cells #[.string k, .slice p1 g1 r1, .slice p3 g3 r3] 125) = w3 at *
   rcases hnd0 : decide (g1 + g3 = 0) with _ | _
   ·have HND := hide hnd0
    have hne := of_decide_eq_false hnd0
    clear hnd0
    have HM2 : Hid (mapP (cleanF c) (s.take (k0 + 1)) = mapP (cleanF c) (s.take k0) ++ [(k, ll, (leftD mm c))]) := by
     unfold Hid
     rw [map_take HX.out, if_neg]
     ·rfl
     ·intro q
      have q1 := congrArg (fun z => (Prod.fst z).length) q
      have q2 := congrArg (fun z => (Prod.snd z).length) q
      have e1 : (ll : List Dot).length = 0 := q1
      have e2 : ((leftD mm c) : List Dot).length = 0 := q2
      have := G1.out.1.1
      have := G2.out.1.1
      omega
    go_wp2_with (first | (go_at_call 184; refine (noth9_any k _ _ _ _ _ _ _).mono ?_; rintro e w4 ⟨rfl, hb4⟩; rw [HND.out]; have B4 := hide hb4; have d0 := bcell hb4 x0; have d1 := bcell hb4 x1; have d2 := bcell hb4 x2; clear hb4) | (at_builtin; refine Stop.at ?_))
    unfold Stop
    have BL := hide (bel1 w4 (.cells #[.string k, .slice p1 g1 r1, .slice p3 g3 r3] 125))
    have BT := hide (bel_next B4.out BL.out)
    have HN4 : Hid (w.heap.size ≤ (w4.alloc (.cells #[.string k, .slice p1 g1 r1, .slice p3 g3 r3] 125)).heap.size) := Nat.le_trans HN3.out BT.out.size
    refine append_en rfl _ _ rfl w.heap.size _ (mapP (cleanF c) (s.take k0)) [(k, ll, (leftD mm c))] rfl (HO3.out.below BT.out) (some ⟨w4.heap.size, 0, none⟩) 1 1 rfl (fun h => by cases h) [(k, (p1, g1, r1), (p3, g3, r3))] (RSN.one w4 (k, (p1, g1, r1), (p3, g3, r3)) _ rfl 125 (0, 0)) (Rels.one ⟨rfl, ⟨G1.out.1.below BT.out, G1.out.2.1⟩, G2.out.1.below BT.out, G2.out.2.1⟩) (fun y hy => by
     rw [List.mem_singleton] at hy
     subst hy
     exact ⟨G1.out.2.2.below BT.out, G2.out.2.2.below BT.out⟩) (by have := mapP_len (cleanF c) (s.take k0); rw [List.length_take, HLEN.out] at this; rw [List.length_singleton]; omega) HN4.out ?_
    intro v5 w5 ho5 _ hbel5
    have HO5 := hide ho5
    rw [← HM2.out] at HO5
    have HB5 := hide (hbel5 _ (HB3.out.trans (BT.out.mono HN3.out)))
    clear ho5 hbel5
    go_wp2
    go_roundw
    case rel => exact ⟨k0 + 1, by omega, by go_num, HO5, HB5⟩
    case measure => simp [intOf]; omega
   ·have HND := hide hnd0
    have hne := of_decide_eq_true hnd0
    clear hnd0
    have HM2 : Hid (mapP (cleanF c) (s.take (k0 + 1)) = mapP (cleanF c) (s.take k0)) := by
     unfold Hid
     rw [map_take HX.out, if_pos, List.append_nil]
     have e1 : (ll : List Dot) = [] := List.eq_nil_of_length_eq_zero (by have := G1.out.1.1; omega)
     have e2 : ((leftD mm c) : List Dot) = [] := List.eq_nil_of_length_eq_zero (by have := G2.out.1.1; omega)
     exact Prod.ext e1 e2
    go_wp2_with (go_at_call 184; refine (noth9_any k _ _ _ _ _ _ _).mono ?_; rintro e w4 ⟨rfl, hb4⟩; rw [HND.out]; have B4 := hide hb4; clear hb4)
    go_roundw
    case rel => exact ⟨k0 + 1, by omega, by go_num, (show Hid _ by have := HO3.out.below B4.out; rwa [← HM2.out] at this), (show Hid _ from HB3.out.trans (B4.out.mono HN3.out))⟩
    case measure => simp [intOf]; omega
  ·obtain rfl : k0 = n := by omega
   have HE : Hid (ON w.heap.size wr u5 (mapP (cleanF c) s)) := by have := HO.out; rwa [← HLEN.out, List.take_length] at this
   clear HO
   go_wp2
   go_ret
   exact ⟨_, rfl, HE.out, HB.out⟩
end Go.Proofs.YtkbbegbpkndebaaGreat

