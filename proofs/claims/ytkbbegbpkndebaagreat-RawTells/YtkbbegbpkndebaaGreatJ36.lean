/- Texts of this claim, joined: Z8. -/
import Derived.Test.YtkbbegbpkndebaaGreatJ27
import Derived.Test.YtkbbegbpkndebaaGreatJ34
import Derived.Test.YtkbbegbpkndebaaGreatJ9
/- The program's places, copies, what a clock has not, and what it does to each key (layer 9). -/
namespace Go.Proofs.YtkbbegbpkndebaaGreat
open Go.RowKit Go.Lib
set_option linter.unusedVariables false
set_option maxHeartbeats 2000000 in
set_option maxRecDepth 4000 in
theorem clone9_any (k : ByteArray) (pl : Option Addr) (nl cl : Nat) (pd : Option Addr) (nd cd : Nat) (l m : List Dot) (w : World) (hl : DS w pl nl l) (hm : DS w pd nd m) (h1 : nl ≤ 1000000) (h2 : nd ≤ 1000000) : Calls Tryz.prog 183 #[.agg #[.string k, .slice pl nl cl, .slice pd nd cd]] w fun e w' => ∃ v1 v2, e = .returned (.agg #[.string k, v1, v2]) ∧ OwnD w.heap.size w' v1 l ∧ OwnD w.heap.size w' v2 m ∧ Below w.heap.size w w' := by
 have B0 := hide (bel1 w (.cells #[.string k, .slice pl nl cl, .slice pd nd cd] 125))
 have BN := hide (bel1 (w.alloc (.cells #[.string k, .slice pl nl cl, .slice pd nd cd] 125)) (.cells #[.string ⟨#[]⟩, .slice none 0 0, .slice none 0 0] 125))
 have HX1 := hide ((BX.new w _ rfl #[.string k, .slice pl nl cl, .slice pd nd cd] 125).alloc (.cells #[.string ⟨#[]⟩, .slice none 0 0, .slice none 0 0] 125))
 have HX2 := hide (BX.new (w.alloc (.cells #[.string k, .slice pl nl cl, .slice pd nd cd] 125)) (w.heap.size + 1) (by simp) #[.string ⟨#[]⟩, .slice none 0 0, .slice none 0 0] 125)
 have HBU := hide (bel_next B0.out BN.out)
 have HNU0 : Hid (w.heap.size ≤ ((w.alloc (.cells #[.string k, .slice pl nl cl, .slice pd nd cd] 125)).alloc (.cells #[.string ⟨#[]⟩, .slice none 0 0, .slice none 0 0] 125)).heap.size) := HBU.out.size
 have HL := hide (hl.below HBU.out)
 have HM := hide (hm.below HBU.out)
 have HNU := HNU0
 clear hl hm B0 BN
 go_enter Tryz.func183, Tryz.ntmps183
 go_upto_region 1 with fail
 generalize (w.alloc (.cells #[.string k, .slice pl nl cl, .slice pd nd cd] 125)).alloc (.cells #[.string ⟨#[]⟩, .slice none 0 0, .slice none 0 0] 125) = u at *
 refine wp_region_held_drew (S := fun W => BX W w.heap.size #[.string k, .slice pl nl cl, .slice pd nd cd] 125) (by kernel_rfl) (HX1.out.drew) (fun hS0 => ?_)
 refine tkJ 0 3 hS0 ?_; simp only [ly]
 refine tkL 1 4 hS0 ?h ?_; case h => (intro W hW; have e0 := hW.cell 0 _ rfl; have e1 := hW.cell 1 _ rfl; have e2 := hW.cell 2 _ rfl; clear hW; go_simp; try rfl); simp only [ly]
 refine tkJ 2 5 hS0 ?_; simp only [ly]
 refine tkL 3 6 hS0 ?h ?_; case h => (intro W hW; have e0 := hW.cell 0 _ rfl; have e1 := hW.cell 1 _ rfl; have e2 := hW.cell 2 _ rfl; clear hW; go_simp; try rfl); simp only [ly]
 refine tkJ 5 8 hS0 ?_; simp only [ly]
 refine tkL 6 9 hS0 ?h ?_; case h => (intro W hW; have e0 := hW.cell 0 _ rfl; have e1 := hW.cell 1 _ rfl; have e2 := hW.cell 2 _ rfl; clear hW; go_simp; try rfl); simp only [ly]
 refine wpAnyH_ready (rs := [4]) (by kernel_rfl) (by simp) ?_
 refine AllReadyH.cons rfl (fun K hK => ?_) AllReadyH.nil
 go_simp
 refine (cloneD_any pl nl cl l _ (HL.out.below (Below.refl _ u).drew) (by omega)).mono ?_
 rintro e w1 ⟨v1, rfl, ho1, hb1⟩
 obtain ⟨p1, r1, rfl, _, _⟩ := ho1.open
 have O1 := hide ho1
 have B1 := hide (bel_next (Below.refl _ u).drew hb1)
 have X2 := hide ((HX2.out.drew).below hb1)
 have BW := hS0.below hb1
 clear ho1 hb1
 refine hK.out _ _ ?hs7 (fun hS1 => ?_)
 case hs7 => exact BW
 clear hK K
 try simp only [ly]
 refine wpAnyH_ready (rs := [7]) (by kernel_rfl) (by simp) ?_
 refine AllReadyH.cons rfl (fun K hK => ?_) AllReadyH.nil
 go_simp
 refine (cloneD_any pd nd cd m _ (HM.out.below B1.out) (by omega)).mono ?_
 rintro e w2 ⟨v2, rfl, ho2, hb2⟩
 obtain ⟨p2, r2, rfl, _, _⟩ := ho2.open
 have O2 := hide ho2
 replace O1 := hide (O1.out.below hb2)
 have B2 := hide (bel_next B1.out hb2)
 replace X2 := hide (X2.out.below hb2)
 clear BW
 have BW := hS1.below hb2
 have hz1 := B1.out.size
 clear hb2 ho2
 refine hK.out _ _ ?hs8 (fun hS2 => ?_)
 case hs8 => exact BW
 clear hK K
 try simp only [ly]
 refine tkJ 8 11 hS2 ?_; simp only [ly]
 refine wpAnyH_ready (rs := [9]) (by kernel_rfl) (by simp) ?_
 refine AllReadyH.cons rfl (fun K hK => ?_) AllReadyH.nil
 have f0 := X2.out.free 0
 have f1 := X2.out.free 1
 have f2 := X2.out.free 2
 have q0 := X2.out.cell 0 _ rfl
 have q1 := X2.out.cell 1 _ rfl
 have q2 := X2.out.cell 2 _ rfl
 obtain ⟨hp1, _, hp2, hp4⟩ := X2.out.put3 (.string k) (.slice p1 l.length r1) (.slice p2 m.length r2)
 have HP1 := hide hp1
 have off1 : (Value.slice p1 l.length r1).ownBlock ≠ some (w.heap.size + 1) := OwnR.off O1.out X2.out (by decide)
 have off2 : (Value.slice p2 m.length r2).ownBlock ≠ some (w.heap.size + 1) := OwnR.off O2.out X2.out (by decide)
 have HB3 := hide (hp2 _ _ (HBU.out.trans (B2.out.mono HNU.out)) (Nat.le_succ _))
 clear BW
 have BW := hp4 _ _ _ hS2 (by omega)
 replace O1 : Hid (OwnD w.heap.size _ (.slice p1 l.length r1) l) := ((((OwnR.set (OwnR.set (OwnR.set (OwnD.rows.1 O1.out) off1 0 (.string k)) off1 1 (.slice p1 l.length r1)) off1 2 (.slice p2 m.length r2)))).mono HNU0.out)
 replace O2 : Hid (OwnD w.heap.size _ (.slice p2 m.length r2) m) := ((((OwnR.set (OwnR.set (OwnR.set (OwnD.rows.1 O2.out) off2 0 (.string k)) off2 1 (.slice p1 l.length r1)) off2 2 (.slice p2 m.length r2)))).mono (Nat.le_trans HNU0.out hz1))
 clear hp1 hp2 hp4
 go_simp
 refine hK.out _ _ ?hs10 (fun hS3 => ?_)
 case hs10 => exact BW
 clear hK K
 try simp only [ly]
 refine wpAnyH_done (by kernel_rfl) ?_ _
 go_wp2
 refine bodyPost_ret (results_cell_row rfl _ _ _ _ _ _ _ rfl HP1.out Tryz.underlying125 rfl (by kernel_rfl)) rfl ?_
 exact ⟨_, _, rfl, O1.out, O2.out, HB3.out⟩
set_option maxHeartbeats 2000000 in
theorem unk9_any (p : Option Addr) (n cap : Nat) (l : List Dot) (pa : Option Addr) (na ca : Nat) (c : List Int) (w : World) (hA : DS w p n l) (hP : NS w pa na c) (hn : n ≤ 900000) : Calls Tryz.prog 142 #[.slice p n cap, .slice pa na ca] w fun e w' => ∃ v, e = .returned v ∧ OwnD w.heap.size w' v (leftD l c) ∧ Below w.heap.size w w' := by
 have HV := hide hA
 have HP := hide hP
 have HLEN := hide hA.1
 clear hA hP
 go_enter Tryz.func142, Tryz.ntmps142
 go_wp2
 go_loopw [5, 10] (fun V i wr => ∃ k : Nat, k ≤ n ∧ i = .int .i64 k ∧ Hid (OwnD w.heap.size wr V (leftD (l.take k) c)) ∧ Hid (Below w.heap.size w wr)) (fun _ i _ => n - (intOf i).toNat)
 case atStart => exact ⟨0, by omega, rfl, OwnD.nil _ _, Below.refl _ _⟩
 case round =>
  obtain ⟨k, hk, rfl, HO, HB⟩ := hrel
  by_cases hlt : k < n
  ·obtain ⟨b, off, rfl⟩ := HV.out.addr (by omega)
   obtain ⟨r, s, hx, c0, c1⟩ := (HV.out.below HB.out).one k hlt
   have hk0 : (0 : Int) ≤ (k : Int) := by omega
   have hk1 : (k : Int) < (n : Int) := by omega
   go_upto_region 5 with fail
   have HB2 : Hid (Below w.heap.size w (wr.alloc (.cells #[.int .i64 r, .int .i64 s] 33))) := HB.out.alloc HB.out.size _
   have HO2 := hide (HO.out.alloc (.cells #[.int .i64 r, .int .i64 s] 33))
   have d0 := cell_new wr #[.int .i64 r, .int .i64 s] 33 _ rfl 0 _ rfl
   have d1 := cell_new wr #[.int .i64 r, .int .i64 s] 33 _ rfl 1 _ rfl
   generalize hgb : wr.heap.size = gb at *
   clear c0 c1 HB HO
   generalize wr.alloc (.cells #[.int .i64 r, .int .i64 s] 33) = u at *
   clear hgb
   by_cases hkn : getZ c r < s
   ·have HF2 := hide (left_yes (c := c) hx hkn)
    have HKN := hide hkn
    have HBX : Hid (∀ k, (leftD (l.take k) c).length ≤ n) := fun k => by
     refine Nat.le_trans (List.length_filter_le _ _) ?_
     rw [List.length_take, HLEN.out]
     omega
    clear hx
    refine wp_region_held_drew (S := fun W => Below u.heap.size u W) (by kernel_rfl) ((Below.refl _ u).drew) (fun hS0 => ?_)
    refine tkJ 0 14 hS0 ?_; simp only [ly]
    refine tkL 1 15 hS0 ?h ?_; case h => (intro W hW; have e0 := bcell hW d0; have e1 := bcell hW d1; clear hW; go_simp; try rfl); simp only [ly]
    refine tkJ 2 16 hS0 ?_; simp only [ly]
    refine tkJ 3 17 hS0 ?_; simp only [ly]
    refine tkL 4 18 hS0 ?h ?_; case h => (intro W hW; have e0 := bcell hW d0; have e1 := bcell hW d1; clear hW; go_simp; try rfl); simp only [ly]
    refine wpAnyH_ready (rs := [5]) (by kernel_rfl) (by simp) ?_
    refine AllReadyH.cons rfl (fun K hK => ?_) AllReadyH.nil
    go_simp
    refine (Get_any pa na ca c r _ (HP.out.below (bel_next HB2.out hS0))).mono ?_
    rintro e wq ⟨rfl, hb⟩
    refine hK.out _ _ ?hs16 (fun hS1 => ?_)
    case hs16 => exact bel_next hS0 hb
    clear hK K hb
    try simp only [ly]
    refine tkJ 6 20 hS1 ?_; simp only [ly]
    refine wpAnyH_done (by kernel_rfl) ?_ _
    generalize getZ c r = gz at *
    replace d0 := bcell hS1 d0
    replace d1 := bcell hS1 d1
    replace HO2 := hide (HO2.out.below hS1)
    replace HB2 := hide (bel_next HB2.out hS1)
    clear hS1
    go_wp2_with (at_builtin; refine Stop.at ?_)
    unfold Stop
    have HBq := hide (bel1 wq (.cells #[.int .i64 r, .int .i64 s] 33))
    have HB3 := hide (bel_next HB2.out HBq.out)
    refine append_dots rfl _ _ rfl w.heap.size _ _ [(r, s)] rfl (HO2.out.below HBq.out) (some ⟨wq.heap.size, 0, none⟩) 1 1 rfl (fun h => by cases h) (DS.new wq _ rfl [(r, s)] _ (by simp [flatD, encD]) 33 (0, 0) 1 rfl (by decide)) (by have := HBX.out k; rw [List.length_singleton]; omega) HB3.out.size ?_
    intro v3 w3 ho3 hbel3
    have HO3 := hide ho3
    rw [← HF2.out] at HO3
    have HB4 := hide (hbel3 _ HB3.out)
    clear ho3 hbel3 HB3 HBq HO2 HB2
    go_wp2
    go_roundw
    case rel => exact ⟨k + 1, by omega, by go_num, HO3, HB4⟩
    case measure => simp [intOf]; omega
   ·have HF2 := hide (left_no (c := c) hx hkn)
    have HKN := hide hkn
    clear hx
    refine wp_region_held_drew (S := fun W => Below u.heap.size u W) (by kernel_rfl) ((Below.refl _ u).drew) (fun hS0 => ?_)
    refine tkJ 0 14 hS0 ?_; simp only [ly]
    refine tkL 1 15 hS0 ?h ?_; case h => (intro W hW; have e0 := bcell hW d0; have e1 := bcell hW d1; clear hW; go_simp; try rfl); simp only [ly]
    refine tkJ 2 16 hS0 ?_; simp only [ly]
    refine tkJ 3 17 hS0 ?_; simp only [ly]
    refine tkL 4 18 hS0 ?h ?_; case h => (intro W hW; have e0 := bcell hW d0; have e1 := bcell hW d1; clear hW; go_simp; try rfl); simp only [ly]
    refine wpAnyH_ready (rs := [5]) (by kernel_rfl) (by simp) ?_
    refine AllReadyH.cons rfl (fun K hK => ?_) AllReadyH.nil
    go_simp
    refine (Get_any pa na ca c r _ (HP.out.below (bel_next HB2.out hS0))).mono ?_
    rintro e wq ⟨rfl, hb⟩
    refine hK.out _ _ ?hs23 (fun hS1 => ?_)
    case hs23 => exact bel_next hS0 hb
    clear hK K hb
    try simp only [ly]
    refine tkJ 6 20 hS1 ?_; simp only [ly]
    refine wpAnyH_done (by kernel_rfl) ?_ _
    (try rw [decide_eq_false HKN.out])
    go_wp2
    go_roundw
    case rel => exact ⟨k + 1, by omega, by go_num, (show Hid _ by have := HO2.out.below hS1; rwa [← HF2.out] at this), (show Hid _ from bel_next HB2.out hS1)⟩
    case measure => simp [intOf]; omega
  ·obtain rfl : k = n := by omega
   have HE : Hid (OwnD w.heap.size wr u5 (leftD l c)) := by have := HO.out; rwa [← HLEN.out, List.take_length] at this
   clear HO
   go_wp2
   go_ret
   exact ⟨_, rfl, HE.out, HB.out⟩
set_option maxHeartbeats 400000 in
theorem plf9_any (k : ByteArray) (pl : Option Addr) (nl cl : Nat) (pd : Option Addr) (nd cd : Nat) (w : World) : Calls Tryz.prog 139 #[.agg #[.string k, .slice pl nl cl, .slice pd nd cd]] w fun e w' => e = .returned (.agg #[.string k, .slice pl nl cl, .slice none 0 0]) ∧ Below w.heap.size w w' := by
 go_enter Tryz.func139, Tryz.ntmps139
 go_wp2
 refine bodyPost_ret (v := .agg #[.string k, .slice pl nl cl, .slice none 0 0]) (by simp [results, Tryz.results139, go_sem]) rfl ⟨rfl, ?_⟩
 exact (Below.refl _ _).alloc (Nat.le_refl _) _ |>.alloc (by simp) _
end Go.Proofs.YtkbbegbpkndebaaGreat

