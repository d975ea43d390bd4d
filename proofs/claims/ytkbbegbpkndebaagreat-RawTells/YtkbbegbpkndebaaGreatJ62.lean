/- Texts of this claim, joined: H23. -/
import Derived.Test.YtkbbegbpkndebaaGreatJ52
import Derived.Test.YtkbbegbpkndebaaGreatJ55
/- The document's Bytes of layer 13. -/
namespace Go.Proofs.YtkbbegbpkndebaaGreat
open Go.RowKit Go.Lib
set_option linter.unusedVariables false
theorem OV.made (w : World) (N : Nat) (hN : N ≤ w.heap.size) : OV N (w.alloc (.cells #[] 59)) (.slice (some ⟨w.heap.size, 0, none⟩) 0 0) [] :=
 ⟨[], World.ownsRow_lit (e := 59) (size := 1) w #[] 0 hN (by decide) rfl, fun x hx => (by cases hx), rfl⟩
set_option maxRecDepth 2000 in
set_option maxHeartbeats 64000000 in
theorem BytesR13 (p1 : Option Addr) (n1 c1 : Nat) (p2 : Option Addr) (n2 c2 : Nat) (p3 : Option Addr) (n3 c3 : Nat) (p4 : Option Addr) (n4 c4 : Nat) (r : Rw) (w : World) (hR : RM w p1 n1 c1 p2 n2 c2 p3 n3 c3 p4 n4 c4 r) (hn : n1 ≤ 100 ∧ n2 ≤ 100 ∧ n3 ≤ 100 ∧ n4 ≤ 100) {N L : Nat} (hS : SmW N L r) (hNL : 9 + N * (59 + 36 * L) ≤ 100000) (hN : N ≤ 900) (hL : L ≤ 400) : Calls Tryz.prog 29 #[.agg #[.slice p1 n1 c1, .slice p2 n2 c2, .slice p3 n3 c3, .slice p4 n4 c4]] w fun e w' => ∃ v, e = .returned v ∧ Own w.heap.size w' v (bytRw r) ∧ Below w.heap.size w w' := by
 have HTX := hide (hS.texts hNL)
 have HOK0 : Hid (∀ s ∈ r.1, s.length ≤ 900 ∧ ∀ x ∈ s, x.1.size ≤ 32 ∧ (∀ d ∈ x.2.1, mayD d = true) ∧ x.2.1.length ≤ 400) := fun s hs => ⟨Nat.le_trans (hS.sets s hs).1 hN, fun x hx => ⟨((hS.sets s hs).2 x hx).key, ((hS.sets s hs).2 x hx).dots, Nat.le_trans ((hS.sets s hs).2 x hx).few hL⟩⟩
 have HOK1 : Hid (∀ s ∈ r.2.1, s.length ≤ 900 ∧ ∀ x ∈ s, mayCe x = true) := fun s hs => ⟨Nat.le_trans (hS.tal s hs).1 (by decide), (hS.tal s hs).2⟩
 have HOK2 : Hid (∀ s ∈ r.2.2.1, s.length ≤ 900 ∧ ∀ x ∈ s, mayAc x = true) := fun s hs => ⟨Nat.le_trans (hS.acc s hs).1 (by decide), (hS.acc s hs).2⟩
 have HOK3 : Hid (∀ s ∈ r.2.2.2, s.length ≤ 900 ∧ ∀ x ∈ s, mayNt x = true) := fun s hs => ⟨Nat.le_trans (hS.reg s hs).1 (by decide), (hS.reg s hs).2⟩
 have HLN : Hid (r.1.length ≤ 100 ∧ r.2.1.length ≤ 100 ∧ r.2.2.1.length ≤ 100 ∧ r.2.2.2.length ≤ 100) := by
  have h1 := LS.len hR.s
  have h2 := LS.len hR.t
  have h3 := LS.len hR.a
  have h4 := LS.len hR.g
  unfold Hid
  omega
 have hn1 := hn.1
 have hn2 := hn.2.1
 have hn3 := hn.2.2.1
 have hn4 := hn.2.2.2
 have HU := hide (bel1 w (.cells #[.slice p1 n1 c1, .slice p2 n2 c2, .slice p3 n3 c3, .slice p4 n4 c4] 31))
 have HXP : Hid (BX (w.alloc (.cells #[.slice p1 n1 c1, .slice p2 n2 c2, .slice p3 n3 c3, .slice p4 n4 c4] 31)) w.heap.size #[.slice p1 n1 c1, .slice p2 n2 c2, .slice p3 n3 c3, .slice p4 n4 c4] 31) := BX.new w _ rfl _ _
 have HRM := hide (hR.below HU.out)
 clear hS hNL hN hL hn hR
 go_enter Tryz.func29, Tryz.ntmps29
 go_upto_region 1 with fail
 generalize hu : w.alloc (.cells #[.slice p1 n1 c1, .slice p2 n2 c2, .slice p3 n3 c3, .slice p4 n4 c4] 31) = u at *
 clear hu
 have HV0 := hide (OV.made u u.heap.size (Nat.le_refl _))
 have HC0 := hide (bel1 u (.cells #[] 59))
 go_upto_region 2 with fail
 generalize hwz : u.alloc (.cells #[] 59) = u2 at *
 clear hwz
 go_wp2
 go_loopw [3, 4] (fun V v wr => ∃ i : Nat, i ≤ n1 ∧ v = .int .i64 i ∧ Hid (OV u.heap.size wr V (([] : List (List Int)) ++ (r.1.take i).map (fun s => pack (s.map entB)))) ∧ Hid (Below u.heap.size u wr)) (fun _ v _ => n1 - (intOf v).toNat)
 case atStart => exact ⟨0, by omega, rfl, (show OV _ _ _ _ from by simpa using HV0.out), HC0⟩
 case round =>
  clear HV0 HC0
  obtain ⟨i, hi, rfl, HV, HB⟩ := hrel
  have b0 := (HXP.out.below HB.out).cell 0 _ rfl
  by_cases hlt : i < n1
  ·obtain ⟨bt, ot, hpt⟩ := LS.addr HRM.out.s (by omega)
   subst hpt
   obtain ⟨px, nx, cx, s, hs, x0, hX, hcx⟩ := LS.at (LS.below kept_ent HRM.out.s HB.out) i hlt
   have hi0 : (0 : Int) ≤ (i : Int) := by omega
   have hi1 : (i : Int) < (n1 : Int) := by omega
   have HSK := hide (HOK0.out s (List.mem_of_getElem? hs))
   have HNX : Hid (([] : List (List Int)) ++ (r.1.take (i + 1)).map (fun s => pack (s.map entB)) = (([] : List (List Int)) ++ (r.1.take i).map (fun s => pack (s.map entB))) ++ [pack (s.map entB)]) := by
    unfold Hid
    rw [take_snocL hs, List.map_append]
    simp
   have HFL : Hid ((([] : List (List Int)) ++ (r.1.take i).map (fun s => pack (s.map entB))).length ≤ 900) := by
    unfold Hid
    simp only [List.length_append, List.length_map, List.length_take, List.length_nil]
    have h1 := HLN.out
    omega
   have HX := hide hX
   have HSL := hide ((kept_ent).len hX)
   have hnx : nx ≤ 900 := by have h9 := HSL.out; have h8 := HSK.out.1; omega
   have X0 := hide x0
   have B0 := hide b0
   clear hs hX hcx
   go_wp2
   have HK0 := hide (OV.made wr wr.heap.size (Nat.le_refl _))
   have HC0 := hide (bel1 wr (.cells #[] 59))
   clear x0 b0
   generalize hwz : wr.alloc (.cells #[] 59) = wz at *
   clear hwz
   generalize hww : wr = wA at *
   clear hww
   go_loopw [5, 6] (fun K v wr => ∃ j : Nat, j ≤ nx ∧ v = .int .i64 j ∧ Hid (OV wA.heap.size wr K ((s.take j).map entB)) ∧ Hid (Below wA.heap.size wA wr)) (fun _ v _ => nx - (intOf v).toNat)
   case atStart => exact ⟨0, by omega, rfl, HK0, HC0⟩
   case round =>
    clear HK0 HC0
    obtain ⟨j, hj, rfl, HK, HC⟩ := hrel
    have b0 := bcell HC.out B0.out
    have x0 := bcell HC.out X0.out
    by_cases hlj : j < nx
    ·obtain ⟨bx, ox, hpx⟩ := HX.out.addr (by omega)
     subst hpx
     have hj0 : (0 : Int) ≤ (j : Int) := by omega
     have hj1 : (j : Int) < (nx : Int) := by omega
     have HFK : Hid (((s.take j).map entB).length ≤ 900) := by
      unfold Hid
      rw [List.length_map, List.length_take]
      have h9 := HSL.out
      have h8 := HSK.out.1
      omega
     obtain ⟨ke, pl, nl, cl, pd, nd, cd, l, m, hx, z0, z1, z2, hD, _, _, _⟩ := (HX.out.below HC.out).at j hlj
     have HPX := HSK.out.2 _ (List.mem_of_getElem? hx)
     have hsk : ke.size ≤ maxLen := by have := HPX.1; unfold maxLen; simp only at this; omega
     have HDD := hide HPX.2.1
     have hnl : nl ≤ 400 := by have h9 := HPX.2.2; have h8 := hD.1; simp only at h9; omega
     have HEN := hide (ent_texts (L := 400) (x := (ke, l, [])) ⟨HPX.1, HPX.2.1, HPX.2.2, rfl⟩)
     have HD := hide hD
     have HDL := hide hD.1
     have HNK : Hid ((s.take (j + 1)).map entB = (s.take j).map entB ++ [entB (ke, l, m)]) := by
      unfold Hid
      rw [take_snocL hx, List.map_append]
      rfl
     have Z1 := hide z1
     clear hx HPX hD z2
     replace B0 := hide b0
     replace X0 := hide x0
     have hc1 : ∀ W, _ := fun W => conv13 W ke
     have HTU := hide (TU.made (Below.refl _ wr) ke hsk)
     have HBc := hide (conv_bel wr 5 ke)
     go_upto_region 10 with fail
     clear hc1
     have HV0 := hide (OV.lit _ wr.heap.size HBc.out.size (some ⟨wr.heap.size, 0, none⟩, ke.size, grownCap wr ke.size 0 5) (bytesL ke) HTU.out)
     have HD0 := hide (bel_next HBc.out (bel1 _ (.cells #[.slice (some ⟨wr.heap.size, 0, none⟩) ke.size (grownCap wr ke.size 0 5)] 59)))
     simp only [hdV] at HV0
     clear HTU HBc
     generalize hgv : (bytesWorld wr 5 ke).heap.size = gv at *
     clear hgv
     generalize hwz : (bytesWorld wr 5 ke).alloc (.cells #[.slice (some ⟨wr.heap.size, 0, none⟩) ke.size (grownCap wr ke.size 0 5)] 59) = wz at *
     clear hwz
     generalize hww : wr = wD at *
     clear hww
     clear z0 z1 b0 x0
     have b0 := bcell HD0.out B0.out
     go_wp2
     clear b0
     go_loopw [7, 8] (fun V v wr => ∃ q : Nat, q ≤ nl ∧ v = .int .i64 q ∧ Hid (OV wD.heap.size wr V (bytesL ke :: (l.take q).flatMap (fun d => [num d.1, num d.2]))) ∧ Hid (Below wD.heap.size wD wr)) (fun _ v _ => nl - (intOf v).toNat)
     case atStart => exact ⟨0, by omega, rfl, (show OV _ _ _ _ from HV0.out), HD0⟩
     case round =>
      clear HV0 HD0
      obtain ⟨q, hq0, rfl, HO1, HE⟩ := hrel
      have b0 := bcell HE.out B0.out
      have x0 := bcell HE.out X0.out
      have z1 := bcell HE.out Z1.out
      by_cases hlq : q < nl
      ·obtain ⟨bd, od, hpd⟩ := HD.out.addr (by omega)
       subst hpd
       obtain ⟨dr, dq, hx, d0, d1⟩ := HD.out.one q hlq
       have D0 := hide d0
       have D1 := hide d1
       have hq1 : (0 : Int) ≤ (q : Int) := by omega
       have hq2 : (q : Int) < (nl : Int) := by omega
       have hrq := mayD_in (HDD.out _ (List.mem_of_getElem? hx))
       have hr := hrq.1
       have hq := hrq.2
       have HNQ : Hid ((bytesL ke :: (l.take (q + 1)).flatMap (fun d => [num d.1, num d.2])) = (bytesL ke :: (l.take q).flatMap (fun d => [num d.1, num d.2])) ++ [num dr, num dq]) := by
        unfold Hid
        rw [take_snocL hx, List.flatMap_append]
        simp
       have HFQ : Hid ((bytesL ke :: (l.take q).flatMap (fun d => [num d.1, num d.2])).length ≤ 900) := by
        unfold Hid
        rw [List.length_cons, dots_len, List.length_take]
        omega
       clear hx hrq d0 d1
       go_upto_region 13 with fail
       clear b0 x0 z1
       generalize hww : wr = wq at *
       clear hww
       replace HO1 := hide (HO1.out.below (Below.refl _ wq).drew)
       refine wp_region_held_drew (S := fun W => Below wD.heap.size wD W) (by kernel_rfl) (HE.out.drew) (fun hS0 => ?_)
       generalize wq.drew = wk0 at *
       refine tkJ 0 65 hS0 ?_; simp only [ly]
       refine tkJ 1 66 hS0 ?_; simp only [ly]
       refine tkL 2 67 hS0 ?h ?_; case h => (intro W hW; have e0 := bcell hW B0.out; have e1 := bcell hW X0.out; have e2 := bcell hW Z1.out; have e3 := bcell hW D0.out; have e4 := bcell hW D1.out; clear hW; go_simp; try rfl); simp only [ly]
       refine tkJ 3 68 hS0 ?_; simp only [ly]
       refine tkJ 4 69 hS0 ?_; simp only [ly]
       refine tkL 5 70 hS0 ?h ?_; case h => (intro W hW; have e0 := bcell hW B0.out; have e1 := bcell hW X0.out; have e2 := bcell hW Z1.out; have e3 := bcell hW D0.out; have e4 := bcell hW D1.out; clear hW; go_simp; try rfl); simp only [ly]
       refine tkJ 6 71 hS0 ?_; simp only [ly]
       refine tkJ 7 72 hS0 ?_; simp only [ly]
       refine tkJ 8 73 hS0 ?_; simp only [ly]
       refine tkL 9 74 hS0 ?h ?_; case h => (intro W hW; have e0 := bcell hW B0.out; have e1 := bcell hW X0.out; have e2 := bcell hW Z1.out; have e3 := bcell hW D0.out; have e4 := bcell hW D1.out; clear hW; go_simp; try rfl); simp only [ly]
       refine tkJ 10 75 hS0 ?_; simp only [ly]
       refine tkJ 11 76 hS0 ?_; simp only [ly]
       refine tkJ 12 77 hS0 ?_; simp only [ly]
       refine tkL 13 78 hS0 ?h ?_; case h => (intro W hW; have e0 := bcell hW B0.out; have e1 := bcell hW X0.out; have e2 := bcell hW Z1.out; have e3 := bcell hW D0.out; have e4 := bcell hW D1.out; clear hW; go_simp; try rfl); simp only [ly]
       refine tkJ 15 80 hS0 ?_; simp only [ly]
       refine tkL 16 81 hS0 ?h ?_; case h => (intro W hW; have e0 := bcell hW B0.out; have e1 := bcell hW X0.out; have e2 := bcell hW Z1.out; have e3 := bcell hW D0.out; have e4 := bcell hW D1.out; clear hW; go_simp; try rfl); simp only [ly]
       refine tkJ 17 82 hS0 ?_; simp only [ly]
       refine tkJ 18 83 hS0 ?_; simp only [ly]
       refine tkL 19 84 hS0 ?h ?_; case h => (intro W hW; have e0 := bcell hW B0.out; have e1 := bcell hW X0.out; have e2 := bcell hW Z1.out; have e3 := bcell hW D0.out; have e4 := bcell hW D1.out; clear hW; go_simp; try rfl); simp only [ly]
       refine tkJ 20 85 hS0 ?_; simp only [ly]
       refine tkJ 21 86 hS0 ?_; simp only [ly]
       refine tkJ 22 87 hS0 ?_; simp only [ly]
       refine tkL 23 88 hS0 ?h ?_; case h => (intro W hW; have e0 := bcell hW B0.out; have e1 := bcell hW X0.out; have e2 := bcell hW Z1.out; have e3 := bcell hW D0.out; have e4 := bcell hW D1.out; clear hW; go_simp; try rfl); simp only [ly]
       refine tkJ 24 89 hS0 ?_; simp only [ly]
       refine tkJ 25 90 hS0 ?_; simp only [ly]
       refine tkJ 26 91 hS0 ?_; simp only [ly]
       refine tkL 27 92 hS0 ?h ?_; case h => (intro W hW; have e0 := bcell hW B0.out; have e1 := bcell hW X0.out; have e2 := bcell hW Z1.out; have e3 := bcell hW D0.out; have e4 := bcell hW D1.out; clear hW; go_simp; try rfl); simp only [ly]
       refine wpAnyH_ready (rs := [14]) (by kernel_rfl) (by simp) ?_
       refine AllReadyH.cons rfl (fun K hK => ?_) AllReadyH.nil
       go_simp
       refine (nat13 dr _ hr.1 hr.2).mono ?_
       rintro e wk1 ⟨v9, rfl, ho9, hb⟩
       obtain ⟨p1, c1, hv9, ht9⟩ := own_tx ho9 (num_by dr)
       subst hv9
       have T1 := hide ht9
       clear ht9 ho9
       replace HO1 := hide (HO1.out.below hb)
       skip
       have BS9 := bel_next hS0 hb
       refine hK.out _ _ ?hs28 (fun hS1 => ?_)
       case hs28 => exact BS9
       clear hK K
       try simp only [ly]
       refine wpAnyH_ready (rs := [28]) (by kernel_rfl) (by simp) ?_
       refine AllReadyH.cons rfl (fun K hK => ?_) AllReadyH.nil
       go_simp
       refine (nat13 dq _ hq.1 hq.2).mono ?_
       rintro e wk2 ⟨v9, rfl, ho9, hb⟩
       obtain ⟨p2, c2, hv9, ht9⟩ := own_tx ho9 (num_by dq)
       subst hv9
       have T2 := hide ht9
       clear ht9 ho9
       replace HO1 := hide (HO1.out.below hb)
       replace T1 := hide (T1.out.below hb)
       have BS9 := bel_next hS1 hb
       refine hK.out _ _ ?hs29 (fun hS2 => ?_)
       case hs29 => exact BS9
       clear hK K
       try simp only [ly]
       refine wpAnyH_ready (rs := [29]) (by kernel_rfl) (by simp) ?_
       refine AllReadyH.cons rfl (fun K hK => ?_) AllReadyH.nil
       go_simp
       have DB := hide (tx_row wk2 [((p1, (num dr).length, c1), num dr), ((p2, (num dq).length, c2), num dq)] #[.slice p1 (num dr).length c1, .slice p2 (num dq).length c2] rfl 2 rfl (by omega))
       have hb := bel1 wk2 (.cells #[.slice p1 (num dr).length c1, .slice p2 (num dq).length c2] 59)
       replace HO1 := hide (HO1.out.below hb)
       replace T1 := hide (T1.out.below hb)
       replace T2 := hide (T2.out.below hb)
       have BS9 := bel_next hS2 hb
       clear hb
       generalize hgw : wk2.heap.size = gw at DB ⊢
       clear hgw
       generalize wk2.alloc (.cells #[.slice p1 (num dr).length c1, .slice p2 (num dq).length c2] 59) = wk3 at DB HO1 T1 T2 BS9 ⊢
       refine hK.out _ _ ?hs30 (fun hS3 => ?_)
       case hs30 => exact BS9
       clear hK K
       try simp only [ly]
       refine wpAnyH_ready (rs := [30]) (by kernel_rfl) (by simp) ?_
       refine AllReadyH.cons rfl (fun K hK => ?_) AllReadyH.nil
       rw [if_pos (by kernel_rfl)]
       refine append_ovw _ _ rfl wD.heap.size _ _ rfl HO1.out gw 2 2 _ rfl DB.out (fun y hy => by simp only [List.mem_cons, List.not_mem_nil, or_false] at hy; rcases hy with rfl | rfl; exact T1.out; exact T2.out) (by have h9 := HFQ.out; omega) hS3.size ?_
       intro v5 w5 ho5 hbel5 hbx5
       have O5 := hide ho5
       have BS5 := hbel5 _ hS3
       clear ho5 hbel5 hbx5
       change K (Act.put _ (some 95) _) _
       refine hK.out _ _ ?hs31 (fun hS4 => ?_)
       case hs31 => exact BS5
       clear hK K
       try simp only [ly]
       refine tkJ 31 7 hS4 ?_; simp only [ly]
       refine wpAnyH_done (by kernel_rfl) ?_ _
       go_wp2
       go_roundw
       case rel => exact ⟨q + 1, by omega, by go_num, (show Hid _ from by unfold Hid; rw [HNQ.out]; exact O5.out), (show Hid _ from hS4)⟩
       case measure => simp [intOf]; omega
      ·obtain rfl : q = nl := by omega
       have h9 := HO1.out
       rw [List.take_of_length_le (by rw [HDL.out]; exact Nat.le_refl _)] at h9
       obtain ⟨p9, c9, hv9, hpc, _⟩ := h9.open
       subst hv9
       have HPC := hide hpc
       clear hpc h9 HO1
       replace HK := hide (HK.out.below HE.out)
       replace HC := hide (bel_next HC.out HE.out)
       clear HE
       have HLL : Hid (∀ t ∈ bytesL ke :: l.flatMap (fun d => [num d.1, num d.2]), t.length ≤ 100000) := fun t ht => by have h9 := HEN.out.1 t ht; omega
       have hN9 : (bytesL ke :: l.flatMap (fun d => [num d.1, num d.2])).length ≤ 1000 := by have h9 := HEN.out.2; omega
       have HRS : Hid (pack (bytesL ke :: l.flatMap (fun d => [num d.1, num d.2])) = entB (ke, l, m)) := rfl
       have HB9 : Hid (By (pack (bytesL ke :: l.flatMap (fun d => [num d.1, num d.2])))) := entB_by (ke, l, m)
       rw [← HRS.out] at HNK
       generalize (bytesL ke :: l.flatMap (fun d => [num d.1, num d.2])) = TS at *
       generalize TS.length = nT at *
       clear HEN HDD HD HDL HRS
       go_wp2_with (first
        | (go_at_call 99; refine (refPack_any p9 _ c9 _ _ HPC.out hN9 HLL.out).mono ?_; rintro e w1 ⟨v9, rfl, ho9, hb⟩; obtain ⟨p1, c1, hv9, ht9⟩ := own_tx ho9 HB9.out; subst hv9; have T1 := hide ht9; replace HK := hide (HK.out.below hb); replace HC := hide (bel_next HC.out hb); clear ht9 ho9 hb)
        | (at_builtin; refine Stop.at ?_))
       unfold Stop
       have hb := bel1 w1 (.cells #[.slice p1 (pack TS).length c1] 59)
       have HC3 := hide (bel_next HC.out hb)
       refine append_ov rfl _ _ rfl wA.heap.size _ _ rfl (HK.out.below hb) w1.heap.size 1 1 [((p1, (pack TS).length, c1), pack TS)] rfl (tx_row w1 _ _ rfl 1 rfl (by omega)) (one_tx (T1.out.below hb)) (by have h9 := HFK.out; omega) HC3.out.size ?_
       intro v5 w5 ho5 hbel5
       have O5 := hide ho5
       have HC5 := hide (hbel5 _ HC3.out)
       clear ho5 hbel5 hb HC3 HK HC T1
       go_wp2
       go_roundw
       case rel => exact ⟨j + 1, by omega, by go_num, (show Hid _ from by unfold Hid; rw [HNK.out]; exact O5.out), HC5⟩
       case measure => simp [intOf]; omega
    ·obtain rfl : j = nx := by omega
     have h9 := HK.out
     rw [List.take_of_length_le (by rw [HSL.out]; exact Nat.le_refl _)] at h9
     obtain ⟨p9, c9, hv9, hpc, _⟩ := h9.open
     subst hv9
     have HPC := hide hpc
     clear hpc h9 HK
     replace HV := hide (HV.out.below HC.out)
     replace HB := hide (bel_next HB.out HC.out)
     clear HC
     have HTT : Hid (∀ t ∈ s.map entB, t.length ≤ 100000) := fun t ht => by
      obtain ⟨x, hx, rfl⟩ := List.mem_map.1 ht
      exact Nat.le_trans (entB_len (L := 400) (x := (x.1, x.2.1, [])) ⟨(HSK.out.2 x hx).1, (HSK.out.2 x hx).2.1, (HSK.out.2 x hx).2.2, rfl⟩) (by decide)
     have hNN : (s.map entB).length ≤ 1000 := by rw [List.length_map]; have h9 := HSK.out.1; omega
     have HBY : Hid (By (pack (s.map entB))) := pack_by (fun p hp => by
      obtain ⟨x, _, rfl⟩ := List.mem_map.1 hp
      exact entB_by x)
     clear HSK HX HSL
     generalize s.map entB = PS at *
     generalize hnL : PS.length = nL at *
     go_wp2_with (first
      | (go_at_call 99; refine (refPack_any p9 _ c9 _ _ HPC.out hNN HTT.out).mono ?_; rintro e w1 ⟨v9, rfl, ho9, hb⟩; obtain ⟨p1, c1, hv9, ht9⟩ := own_tx ho9 HBY.out; subst hv9; have T1 := hide ht9; replace HV := hide (HV.out.below hb); replace HB := hide (bel_next HB.out hb); clear ht9 ho9 hb)
      | (at_builtin; refine Stop.at ?_))
     unfold Stop
     have hb := bel1 w1 (.cells #[.slice p1 (pack PS).length c1] 59)
     have HB3 := hide (bel_next HB.out hb)
     refine append_ov rfl _ _ rfl u.heap.size _ _ rfl (HV.out.below hb) w1.heap.size 1 1 [((p1, (pack PS).length, c1), pack PS)] rfl (tx_row w1 _ _ rfl 1 rfl (by omega)) (one_tx (T1.out.below hb)) (by have h9 := HFL.out; omega) HB3.out.size ?_
     intro v5 w5 ho5 hbel5
     have O5 := hide ho5
     have HB5 := hide (hbel5 _ HB3.out)
     clear ho5 hbel5 hb HB3 HV HB T1
     go_wp2
     go_roundw
     case rel => exact ⟨i + 1, by omega, by go_num, (show Hid _ from by unfold Hid; rw [HNX.out]; exact O5.out), HB5⟩
     case measure => simp [intOf]; omega
  ·obtain rfl : n1 = i := by omega
   have h9 := HV.out
   rw [List.take_of_length_le (by rw [LS.len HRM.out.s]; exact Nat.le_refl _)] at h9
   have HV1 := hide h9
   have HC1 := HB
   clear h9 HV HB hlt hi
   go_wp2
   clear b0
   go_loopw [3, 9] (fun V v wr => ∃ i : Nat, i ≤ n2 ∧ v = .int .i64 i ∧ Hid (OV u.heap.size wr V ((([] : List (List Int)) ++ r.1.map (fun s => pack (s.map entB))) ++ (r.2.1.take i).map (fun s => pack (s.map celB)))) ∧ Hid (Below u.heap.size u wr)) (fun _ v _ => n2 - (intOf v).toNat)
   case atStart => exact ⟨0, by omega, rfl, (show OV _ _ _ _ from by simpa using HV1.out), HC1⟩
   case round =>
    clear HV1 HC1
    obtain ⟨i, hi, rfl, HV, HB⟩ := hrel
    have b1 := (HXP.out.below HB.out).cell 1 _ rfl
    by_cases hlt : i < n2
    ·obtain ⟨bt, ot, hpt⟩ := LS.addr HRM.out.t (by omega)
     subst hpt
     obtain ⟨px, nx, cx, s, hs, x0, hX, hcx⟩ := LS.at (LS.below kept_cel HRM.out.t HB.out) i hlt
     have hi0 : (0 : Int) ≤ (i : Int) := by omega
     have hi1 : (i : Int) < (n2 : Int) := by omega
     have HSK := hide (HOK1.out s (List.mem_of_getElem? hs))
     have HNX : Hid ((([] : List (List Int)) ++ r.1.map (fun s => pack (s.map entB))) ++ (r.2.1.take (i + 1)).map (fun s => pack (s.map celB)) = ((([] : List (List Int)) ++ r.1.map (fun s => pack (s.map entB))) ++ (r.2.1.take i).map (fun s => pack (s.map celB))) ++ [pack (s.map celB)]) := by
      unfold Hid
      rw [take_snocL hs, List.map_append]
      simp
     have HFL : Hid (((([] : List (List Int)) ++ r.1.map (fun s => pack (s.map entB))) ++ (r.2.1.take i).map (fun s => pack (s.map celB))).length ≤ 900) := by
      unfold Hid
      simp only [List.length_append, List.length_map, List.length_take, List.length_nil]
      have h1 := HLN.out
      omega
     have HX := hide hX
     have HSL := hide ((kept_cel).len hX)
     have hnx : nx ≤ 900 := by have h9 := HSL.out; have h8 := HSK.out.1; omega
     have X0 := hide x0
     have B0 := hide b1
     clear hs hX hcx
     go_wp2
     have HK0 := hide (OV.made wr wr.heap.size (Nat.le_refl _))
     have HC0 := hide (bel1 wr (.cells #[] 59))
     clear x0 b1
     generalize hwz : wr.alloc (.cells #[] 59) = wz at *
     clear hwz
     generalize hww : wr = wA at *
     clear hww
     go_loopw [10, 11] (fun K v wr => ∃ j : Nat, j ≤ nx ∧ v = .int .i64 j ∧ Hid (OV wA.heap.size wr K ((s.take j).map celB)) ∧ Hid (Below wA.heap.size wA wr)) (fun _ v _ => nx - (intOf v).toNat)
     case atStart => exact ⟨0, by omega, rfl, HK0, HC0⟩
     case round =>
      clear HK0 HC0
      obtain ⟨j, hj, rfl, HK, HC⟩ := hrel
      have b1 := bcell HC.out B0.out
      have x0 := bcell HC.out X0.out
      by_cases hlj : j < nx
      ·obtain ⟨bx, ox, hpx⟩ := HX.out.addr (by omega)
       subst hpx
       have hj0 : (0 : Int) ≤ (j : Int) := by omega
       have hj1 : (j : Int) < (nx : Int) := by omega
       have HFK : Hid (((s.take j).map celB).length ≤ 900) := by
        unfold Hid
        rw [List.length_map, List.length_take]
        have h9 := HSL.out
        have h8 := HSK.out.1
        omega
       obtain ⟨ke, m, hx, z0, z1⟩ := HX.out.at j hlj
       have HPX := HSK.out.2 _ (List.mem_of_getElem? hx)
       have hsk : ke.size ≤ maxLen := by have q := (mayCe_iff.1 HPX).1; unfold mayK at q; rw [decide_eq_true_iff] at q; unfold maxLen; simp only at q; omega
       have hks : ke.size ≤ 32 := by have q := (mayCe_iff.1 HPX).1; unfold mayK at q; rw [decide_eq_true_iff] at q; simp only at q; omega
       have hbd : -top40 ≤ m ∧ m ≤ top40 := (mayCe_iff.1 HPX).2.2
       have HNK : Hid ((s.take (j + 1)).map celB = (s.take j).map celB ++ [celB (ke, m)]) := by
        unfold Hid
        rw [take_snocL hx, List.map_append]
        rfl
       have Z0 := hide z0
       have Z1 := hide z1
       have HLL : Hid (∀ p ∈ [bytesL ke, num (zzN m)], p.length ≤ 100000) := by
        intro p hp
        have h9 := num_len9 (zzN m)
        have h8 := bytesL_len ke
        simp only [List.mem_cons, List.not_mem_nil, or_false] at hp
        rcases hp with rfl | rfl <;> omega
       have HB9 : Hid (By (pack [bytesL ke, num (zzN m)])) := celB_by (ke, m)
       have hc1 : ∀ W, _ := fun W => conv13 W ke
       clear hx HPX z0 z1
       go_upto_region 23 with fail
       clear b1 x0
       generalize hww : wr = wq at *
       clear hww
       replace HK := hide (HK.out.below (Below.refl _ wq).drew)
       refine wp_region_held_drew (S := fun W => Below wA.heap.size wA W) (by kernel_rfl) (HC.out.drew) (fun hS0 => ?_)
       generalize wq.drew = wk0 at *
       refine tkJ 0 124 hS0 ?_; simp only [ly]
       refine tkJ 1 125 hS0 ?_; simp only [ly]
       refine tkL 2 126 hS0 ?h ?_; case h => (intro W hW; have e0 := bcell hW B0.out; have e1 := bcell hW X0.out; have e2 := bcell hW Z0.out; have e3 := bcell hW Z1.out; clear hW; go_simp; try rfl); simp only [ly]
       refine tkJ 3 127 hS0 ?_; simp only [ly]
       refine tkJ 4 128 hS0 ?_; simp only [ly]
       refine tkL 5 129 hS0 ?h ?_; case h => (intro W hW; have e0 := bcell hW B0.out; have e1 := bcell hW X0.out; have e2 := bcell hW Z0.out; have e3 := bcell hW Z1.out; clear hW; go_simp; try rfl); simp only [ly]
       refine tkJ 6 130 hS0 ?_; simp only [ly]
       refine tkJ 7 131 hS0 ?_; simp only [ly]
       refine tkJ 8 132 hS0 ?_; simp only [ly]
       refine tkL 9 133 hS0 ?h ?_; case h => (intro W hW; have e0 := bcell hW B0.out; have e1 := bcell hW X0.out; have e2 := bcell hW Z0.out; have e3 := bcell hW Z1.out; clear hW; go_simp; try rfl); simp only [ly]
       refine tkJ 11 135 hS0 ?_; simp only [ly]
       refine tkL 12 136 hS0 ?h ?_; case h => (intro W hW; have e0 := bcell hW B0.out; have e1 := bcell hW X0.out; have e2 := bcell hW Z0.out; have e3 := bcell hW Z1.out; clear hW; go_simp; try rfl); simp only [ly]
       refine tkJ 13 137 hS0 ?_; simp only [ly]
       refine tkJ 14 138 hS0 ?_; simp only [ly]
       refine tkL 15 139 hS0 ?h ?_; case h => (intro W hW; have e0 := bcell hW B0.out; have e1 := bcell hW X0.out; have e2 := bcell hW Z0.out; have e3 := bcell hW Z1.out; clear hW; go_simp; try rfl); simp only [ly]
       refine tkJ 16 140 hS0 ?_; simp only [ly]
       refine tkJ 17 141 hS0 ?_; simp only [ly]
       refine tkJ 18 142 hS0 ?_; simp only [ly]
       refine tkL 19 143 hS0 ?h ?_; case h => (intro W hW; have e0 := bcell hW B0.out; have e1 := bcell hW X0.out; have e2 := bcell hW Z0.out; have e3 := bcell hW Z1.out; clear hW; go_simp; try rfl); simp only [ly]
       refine wpAnyH_ready (rs := [10, 20]) (by kernel_rfl) (by simp) ?_
       refine AllReadyH.cons rfl (fun K hK => ?_) (AllReadyH.cons rfl (fun K hK => ?_) AllReadyH.nil)
       ·go_simp
        have T5 := hide (TX.made hS0 ke hsk)
        have hb := conv_bel wk0 5 ke
        replace HK := hide (HK.out.below hb)
        (try replace T8 := hide (T8.out.below hb))
        have BS9 := bel_next hS0 hb
        clear hb
        generalize hgg : wk0.heap.size = g5 at T5 ⊢
        clear hgg
        generalize grownCap wk0 ke.size 0 5 = c5 at T5 ⊢
        generalize bytesWorld wk0 5 ke = wk1 at *
        refine hK.out _ _ ?hs52 (fun hS1 => ?_)
        case hs52 => exact BS9
        clear hK K
        try simp only [ly]
        refine wpAnyH_ready (rs := [20]) (by kernel_rfl) (by simp) ?_
        refine AllReadyH.cons rfl (fun K hK => ?_) AllReadyH.nil
        go_simp
        refine (num13 m _ hbd).mono ?_
        rintro e wk2 ⟨v9, rfl, ho9, hb⟩
        obtain ⟨p8, c8, hv9, ht9⟩ := own_tx ho9 (num_by (zzN m))
        subst hv9
        replace HK := hide (HK.out.below hb)
        (try replace T5 := hide (T5.out.below hb))
        have T8 := hide ht9.tx
        clear ht9 ho9
        have BS9 := bel_next hS1 hb
        refine hK.out _ _ ?hs53 (fun hS2 => ?_)
        case hs53 => exact BS9
        clear hK K
        try simp only [ly]
        refine wpAnyH_ready (rs := [21]) (by kernel_rfl) (by simp) ?_
        refine AllReadyH.cons rfl (fun K hK => ?_) AllReadyH.nil
        go_simp
        skip
        refine hK.out _ _ ?hs54 (fun hS3 => ?_)
        case hs54 => exact bel_next hS2 (bel1 _ _)
        clear hK K
        try simp only [ly]
        refine wpAnyH_ready (rs := [22]) (by kernel_rfl) (by simp) ?_
        refine AllReadyH.cons rfl (fun K hK => ?_) AllReadyH.nil
        go_simp
        refine (refPack_any _ 2 _ _ _ (PC.newT wk2 _ rfl [(_, bytesL ke), (_, num (zzN m))] _ rfl _ _ 2 rfl (by decide) ?_) (by decide) ?_).mono ?_
        ·simp only [List.mem_cons, List.not_mem_nil, or_false]
         rintro q (rfl | rfl)
         ·exact T5.out
         ·exact T8.out
        ·exact HLL.out
        rintro e wk4 ⟨vr, rfl, hO, hb⟩
        obtain ⟨p1, c1, hv9, ht9⟩ := own_tx hO HB9.out
        subst hv9
        have T1 := hide ht9
        replace HK := hide (HK.out.below (bel_next (bel1 wk2 _) hb))
        have BS9 := bel_next hS3 hb
        clear hO ht9 hb
        refine hK.out _ _ ?hs55 (fun hS4 => ?_)
        case hs55 => exact BS9
        clear hK K
        try simp only [ly]
        refine wpAnyH_ready (rs := [23]) (by kernel_rfl) (by simp) ?_
        refine AllReadyH.cons rfl (fun K hK => ?_) AllReadyH.nil
        go_simp
        have DB := hide (tx_row wk4 [((p1, (pack [bytesL ke, num (zzN m)]).length, c1), pack [bytesL ke, num (zzN m)])] #[.slice p1 (pack [bytesL ke, num (zzN m)]).length c1] rfl 1 rfl (by omega))
        have hb := bel1 wk4 (.cells #[.slice p1 (pack [bytesL ke, num (zzN m)]).length c1] 59)
        replace HK := hide (HK.out.below hb)
        replace T1 := hide (T1.out.below hb)
        have BS9 := bel_next hS4 hb
        clear hb
        generalize hgw : wk4.heap.size = gw at DB ⊢
        clear hgw
        generalize wk4.alloc (.cells #[.slice p1 (pack [bytesL ke, num (zzN m)]).length c1] 59) = wk5 at DB HK T1 BS9 ⊢
        refine hK.out _ _ ?hs56 (fun hS5 => ?_)
        case hs56 => exact BS9
        clear hK K
        try simp only [ly]
        refine wpAnyH_ready (rs := [24]) (by kernel_rfl) (by simp) ?_
        refine AllReadyH.cons rfl (fun K hK => ?_) AllReadyH.nil
        rw [if_pos (by kernel_rfl)]
        refine append_ovw _ _ rfl wA.heap.size _ _ rfl HK.out gw 1 1 _ rfl DB.out (one_tx T1.out) (by have h9 := HFK.out; omega) hS5.size ?_
        intro v5 w5 ho5 hbel5 hbx5
        have O5 := hide ho5
        have BS5 := hbel5 _ hS5
        clear ho5 hbel5 hbx5
        change K (Act.put _ (some 148) _) _
        refine hK.out _ _ ?hs57 (fun hS6 => ?_)
        case hs57 => exact BS5
        clear hK K
        try simp only [ly]
        refine tkJ 25 10 hS6 ?_; simp only [ly]
        refine wpAnyH_done (by kernel_rfl) ?_ _
        go_wp2
        go_roundw
        case rel => exact ⟨j + 1, by omega, by go_num, (show Hid _ from by unfold Hid; rw [HNK.out]; exact O5.out), (show Hid _ from hS6)⟩
        case measure => simp [intOf]; omega
       ·go_simp
        refine (num13 m _ hbd).mono ?_
        rintro e wk1 ⟨v9, rfl, ho9, hb⟩
        obtain ⟨p8, c8, hv9, ht9⟩ := own_tx ho9 (num_by (zzN m))
        subst hv9
        replace HK := hide (HK.out.below hb)
        (try replace T5 := hide (T5.out.below hb))
        have T8 := hide ht9.tx
        clear ht9 ho9
        have BS9 := bel_next hS0 hb
        refine hK.out _ _ ?hs59 (fun hS1 => ?_)
        case hs59 => exact BS9
        clear hK K
        try simp only [ly]
        refine wpAnyH_ready (rs := [10]) (by kernel_rfl) (by simp) ?_
        refine AllReadyH.cons rfl (fun K hK => ?_) AllReadyH.nil
        go_simp
        have T5 := hide (TX.made hS1 ke hsk)
        have hb := conv_bel wk1 5 ke
        replace HK := hide (HK.out.below hb)
        (try replace T8 := hide (T8.out.below hb))
        have BS9 := bel_next hS1 hb
        clear hb
        generalize hgg : wk1.heap.size = g5 at T5 ⊢
        clear hgg
        generalize grownCap wk1 ke.size 0 5 = c5 at T5 ⊢
        generalize bytesWorld wk1 5 ke = wk2 at *
        refine hK.out _ _ ?hs60 (fun hS2 => ?_)
        case hs60 => exact BS9
        clear hK K
        try simp only [ly]
        refine wpAnyH_ready (rs := [21]) (by kernel_rfl) (by simp) ?_
        refine AllReadyH.cons rfl (fun K hK => ?_) AllReadyH.nil
        go_simp
        skip
        refine hK.out _ _ ?hs61 (fun hS3 => ?_)
        case hs61 => exact bel_next hS2 (bel1 _ _)
        clear hK K
        try simp only [ly]
        refine wpAnyH_ready (rs := [22]) (by kernel_rfl) (by simp) ?_
        refine AllReadyH.cons rfl (fun K hK => ?_) AllReadyH.nil
        go_simp
        refine (refPack_any _ 2 _ _ _ (PC.newT wk2 _ rfl [(_, bytesL ke), (_, num (zzN m))] _ rfl _ _ 2 rfl (by decide) ?_) (by decide) ?_).mono ?_
        ·simp only [List.mem_cons, List.not_mem_nil, or_false]
         rintro q (rfl | rfl)
         ·exact T5.out
         ·exact T8.out
        ·exact HLL.out
        rintro e wk4 ⟨vr, rfl, hO, hb⟩
        obtain ⟨p1, c1, hv9, ht9⟩ := own_tx hO HB9.out
        subst hv9
        have T1 := hide ht9
        replace HK := hide (HK.out.below (bel_next (bel1 wk2 _) hb))
        have BS9 := bel_next hS3 hb
        clear hO ht9 hb
        refine hK.out _ _ ?hs62 (fun hS4 => ?_)
        case hs62 => exact BS9
        clear hK K
        try simp only [ly]
        refine wpAnyH_ready (rs := [23]) (by kernel_rfl) (by simp) ?_
        refine AllReadyH.cons rfl (fun K hK => ?_) AllReadyH.nil
        go_simp
        have DB := hide (tx_row wk4 [((p1, (pack [bytesL ke, num (zzN m)]).length, c1), pack [bytesL ke, num (zzN m)])] #[.slice p1 (pack [bytesL ke, num (zzN m)]).length c1] rfl 1 rfl (by omega))
        have hb := bel1 wk4 (.cells #[.slice p1 (pack [bytesL ke, num (zzN m)]).length c1] 59)
        replace HK := hide (HK.out.below hb)
        replace T1 := hide (T1.out.below hb)
        have BS9 := bel_next hS4 hb
        clear hb
        generalize hgw : wk4.heap.size = gw at DB ⊢
        clear hgw
        generalize wk4.alloc (.cells #[.slice p1 (pack [bytesL ke, num (zzN m)]).length c1] 59) = wk5 at DB HK T1 BS9 ⊢
        refine hK.out _ _ ?hs63 (fun hS5 => ?_)
        case hs63 => exact BS9
        clear hK K
        try simp only [ly]
        refine wpAnyH_ready (rs := [24]) (by kernel_rfl) (by simp) ?_
        refine AllReadyH.cons rfl (fun K hK => ?_) AllReadyH.nil
        rw [if_pos (by kernel_rfl)]
        refine append_ovw _ _ rfl wA.heap.size _ _ rfl HK.out gw 1 1 _ rfl DB.out (one_tx T1.out) (by have h9 := HFK.out; omega) hS5.size ?_
        intro v5 w5 ho5 hbel5 hbx5
        have O5 := hide ho5
        have BS5 := hbel5 _ hS5
        clear ho5 hbel5 hbx5
        change K (Act.put _ (some 148) _) _
        refine hK.out _ _ ?hs64 (fun hS6 => ?_)
        case hs64 => exact BS5
        clear hK K
        try simp only [ly]
        refine tkJ 25 10 hS6 ?_; simp only [ly]
        refine wpAnyH_done (by kernel_rfl) ?_ _
        go_wp2
        go_roundw
        case rel => exact ⟨j + 1, by omega, by go_num, (show Hid _ from by unfold Hid; rw [HNK.out]; exact O5.out), (show Hid _ from hS6)⟩
        case measure => simp [intOf]; omega
      ·obtain rfl : j = nx := by omega
       have h9 := HK.out
       rw [List.take_of_length_le (by rw [HSL.out]; exact Nat.le_refl _)] at h9
       obtain ⟨p9, c9, hv9, hpc, _⟩ := h9.open
       subst hv9
       have HPC := hide hpc
       clear hpc h9 HK
       replace HV := hide (HV.out.below HC.out)
       replace HB := hide (bel_next HB.out HC.out)
       clear HC
       have HTT : Hid (∀ t ∈ s.map celB, t.length ≤ 100000) := fun t ht => by
        obtain ⟨x, hx, rfl⟩ := List.mem_map.1 ht
        exact Nat.le_trans (celB_len (HSK.out.2 x hx)) (by decide)
       have hNN : (s.map celB).length ≤ 1000 := by rw [List.length_map]; have h9 := HSK.out.1; omega
       have HBY : Hid (By (pack (s.map celB))) := pack_by (fun p hp => by
        obtain ⟨x, _, rfl⟩ := List.mem_map.1 hp
        exact celB_by x)
       clear HSK HX HSL
       generalize s.map celB = PS at *
       generalize hnL : PS.length = nL at *
       go_wp2_with (first
        | (go_at_call 99; refine (refPack_any p9 _ c9 _ _ HPC.out hNN HTT.out).mono ?_; rintro e w1 ⟨v9, rfl, ho9, hb⟩; obtain ⟨p1, c1, hv9, ht9⟩ := own_tx ho9 HBY.out; subst hv9; have T1 := hide ht9; replace HV := hide (HV.out.below hb); replace HB := hide (bel_next HB.out hb); clear ht9 ho9 hb)
        | (at_builtin; refine Stop.at ?_))
       unfold Stop
       have hb := bel1 w1 (.cells #[.slice p1 (pack PS).length c1] 59)
       have HB3 := hide (bel_next HB.out hb)
       refine append_ov rfl _ _ rfl u.heap.size _ _ rfl (HV.out.below hb) w1.heap.size 1 1 [((p1, (pack PS).length, c1), pack PS)] rfl (tx_row w1 _ _ rfl 1 rfl (by omega)) (one_tx (T1.out.below hb)) (by have h9 := HFL.out; omega) HB3.out.size ?_
       intro v5 w5 ho5 hbel5
       have O5 := hide ho5
       have HB5 := hide (hbel5 _ HB3.out)
       clear ho5 hbel5 hb HB3 HV HB T1
       go_wp2
       go_roundw
       case rel => exact ⟨i + 1, by omega, by go_num, (show Hid _ from by unfold Hid; rw [HNX.out]; exact O5.out), HB5⟩
       case measure => simp [intOf]; omega
    ·obtain rfl : n2 = i := by omega
     have h9 := HV.out
     rw [List.take_of_length_le (by rw [LS.len HRM.out.t]; exact Nat.le_refl _)] at h9
     have HV2 := hide h9
     have HC2 := HB
     clear h9 HV HB hlt hi
     go_wp2
     clear b1
     go_loopw [3, 12] (fun V v wr => ∃ i : Nat, i ≤ n3 ∧ v = .int .i64 i ∧ Hid (OV u.heap.size wr V (((([] : List (List Int)) ++ r.1.map (fun s => pack (s.map entB))) ++ r.2.1.map (fun s => pack (s.map celB))) ++ (r.2.2.1.take i).map (fun s => pack (s.map accB)))) ∧ Hid (Below u.heap.size u wr)) (fun _ v _ => n3 - (intOf v).toNat)
     case atStart => exact ⟨0, by omega, rfl, (show OV _ _ _ _ from by simpa using HV2.out), HC2⟩
     case round =>
      clear HV2 HC2
      obtain ⟨i, hi, rfl, HV, HB⟩ := hrel
      have b2 := (HXP.out.below HB.out).cell 2 _ rfl
      by_cases hlt : i < n3
      ·obtain ⟨bt, ot, hpt⟩ := LS.addr HRM.out.a (by omega)
       subst hpt
       obtain ⟨px, nx, cx, s, hs, x0, hX, hcx⟩ := LS.at (LS.below kept_acc HRM.out.a HB.out) i hlt
       have hi0 : (0 : Int) ≤ (i : Int) := by omega
       have hi1 : (i : Int) < (n3 : Int) := by omega
       have HSK := hide (HOK2.out s (List.mem_of_getElem? hs))
       have HNX : Hid (((([] : List (List Int)) ++ r.1.map (fun s => pack (s.map entB))) ++ r.2.1.map (fun s => pack (s.map celB))) ++ (r.2.2.1.take (i + 1)).map (fun s => pack (s.map accB)) = (((([] : List (List Int)) ++ r.1.map (fun s => pack (s.map entB))) ++ r.2.1.map (fun s => pack (s.map celB))) ++ (r.2.2.1.take i).map (fun s => pack (s.map accB))) ++ [pack (s.map accB)]) := by
        unfold Hid
        rw [take_snocL hs, List.map_append]
        simp
       have HFL : Hid ((((([] : List (List Int)) ++ r.1.map (fun s => pack (s.map entB))) ++ r.2.1.map (fun s => pack (s.map celB))) ++ (r.2.2.1.take i).map (fun s => pack (s.map accB))).length ≤ 900) := by
        unfold Hid
        simp only [List.length_append, List.length_map, List.length_take, List.length_nil]
        have h1 := HLN.out
        omega
       have HX := hide hX
       have HSL := hide ((kept_acc).len hX)
       have hnx : nx ≤ 900 := by have h9 := HSL.out; have h8 := HSK.out.1; omega
       have X0 := hide x0
       have B0 := hide b2
       clear hs hX hcx
       go_wp2
       have HK0 := hide (OV.made wr wr.heap.size (Nat.le_refl _))
       have HC0 := hide (bel1 wr (.cells #[] 59))
       clear x0 b2
       generalize hwz : wr.alloc (.cells #[] 59) = wz at *
       clear hwz
       generalize hww : wr = wA at *
       clear hww
       go_loopw [13, 14] (fun K v wr => ∃ j : Nat, j ≤ nx ∧ v = .int .i64 j ∧ Hid (OV wA.heap.size wr K ((s.take j).map accB)) ∧ Hid (Below wA.heap.size wA wr)) (fun _ v _ => nx - (intOf v).toNat)
       case atStart => exact ⟨0, by omega, rfl, HK0, HC0⟩
       case round =>
        clear HK0 HC0
        obtain ⟨j, hj, rfl, HK, HC⟩ := hrel
        have b2 := bcell HC.out B0.out
        have x0 := bcell HC.out X0.out
        by_cases hlj : j < nx
        ·obtain ⟨bx, ox, hpx⟩ := HX.out.addr (by omega)
         subst hpx
         have hj0 : (0 : Int) ≤ (j : Int) := by omega
         have hj1 : (j : Int) < (nx : Int) := by omega
         have HFK : Hid (((s.take j).map accB).length ≤ 900) := by
          unfold Hid
          rw [List.length_map, List.length_take]
          have h9 := HSL.out
          have h8 := HSK.out.1
          omega
         obtain ⟨ke, h, hx, h5, z0, zj⟩ := HX.out.at j hlj
         have HPX := HSK.out.2 _ (List.mem_of_getElem? hx)
         have hsk : ke.size ≤ maxLen := by have q := (mayAc_iff.1 HPX).1; unfold mayK at q; rw [decide_eq_true_iff] at q; unfold maxLen; simp only at q; omega
         have HTX := hide (accB_texts HPX)
         have HNU := hide (mayAc_nums HPX)
         have HL5 := hide h5
         have HNK : Hid ((s.take (j + 1)).map accB = (s.take j).map accB ++ [accB (ke, h)]) := by
          unfold Hid
          rw [take_snocL hx, List.map_append]
          rfl
         have ZJ := hide zj
         replace z0 := bcell HC.out z0
         replace ZJ : Hid (∀ q, q < 5 → wr.cell? ⟨bx, ox + j * 6 + 1 + q, none⟩ = some (.int .i64 (atH h q))) := fun q hq => bcell HC.out (ZJ.out q hq)
         clear hx HPX h5 zj
         replace B0 := hide b2
         replace X0 := hide x0
         have hc1 : ∀ W, _ := fun W => conv13 W ke
         have HTU := hide (TU.made (Below.refl _ wr) ke hsk)
         have HBc := hide (conv_bel wr 5 ke)
         go_upto_region 33 with fail
         clear hc1
         have HV0 := hide (OV.lit _ wr.heap.size HBc.out.size (some ⟨wr.heap.size, 0, none⟩, ke.size, grownCap wr ke.size 0 5) (bytesL ke) HTU.out)
         have HD0 := hide (bel_next HBc.out (bel1 _ (.cells #[.slice (some ⟨wr.heap.size, 0, none⟩) ke.size (grownCap wr ke.size 0 5)] 59)))
         simp only [hdV] at HV0
         clear HTU HBc
         generalize hgv : (bytesWorld wr 5 ke).heap.size = gv at *
         clear hgv
         generalize hwz : (bytesWorld wr 5 ke).alloc (.cells #[.slice (some ⟨wr.heap.size, 0, none⟩) ke.size (grownCap wr ke.size 0 5)] 59) = wz at *
         clear hwz
         generalize hww : wr = wD at *
         clear hww
         clear z0 b2 x0
         go_wp2
         go_loopw [15, 16] (fun V v wr => ∃ q : Nat, q ≤ 5 ∧ v = .int .i64 q ∧ Hid (OV wD.heap.size wr V (bytesL ke :: (h.take q).map (fun n => num (zzN n)))) ∧ Hid (Below wD.heap.size wD wr)) (fun _ v _ => 5 - (intOf v).toNat)
         case atStart => exact ⟨0, by omega, rfl, (show OV _ _ _ _ from HV0.out), HD0⟩
         case round =>
          clear HV0 HD0
          obtain ⟨q, hq0, rfl, HO1, HE⟩ := hrel
          have b2 := bcell HE.out B0.out
          have x0 := bcell HE.out X0.out
          by_cases hlq : q < 5
          ·have hx := atH_get (h := h) (i := q) (by rw [HL5.out]; exact hlq)
           have hbd := HNU.out _ (List.mem_of_getElem? hx)
           have zq := bcell HE.out (ZJ.out q hlq)
           have hq1 : (0 : Int) ≤ (q : Int) := by omega
           have hq2 : (q : Int) < 5 := by omega
           have HNQ : Hid ((bytesL ke :: (h.take (q + 1)).map (fun n => num (zzN n))) = (bytesL ke :: (h.take q).map (fun n => num (zzN n))) ++ [num (zzN (atH h q))]) := by
            unfold Hid
            rw [take_snocL hx, List.map_append]
            simp
           have HFQ : Hid ((bytesL ke :: (h.take q).map (fun n => num (zzN n))).length ≤ 900) := by
            unfold Hid
            rw [List.length_cons, List.length_map, List.length_take]
            omega
           clear hx
           generalize atH h q = xi at *
           go_wp2_with (first
            | (go_at_call 100; refine (num13 xi _ hbd).mono ?_; rintro e w1 ⟨v9, rfl, ho9, hb⟩; obtain ⟨p1, c1, hv9, ht9⟩ := own_tx ho9 (num_by _); subst hv9; have T1 := hide ht9; replace HO1 := hide (HO1.out.below hb); replace HE := hide (bel_next HE.out hb); clear ht9 ho9 hb)
            | (at_builtin; refine Stop.at ?_))
           unfold Stop
           have hb := bel1 w1 (.cells #[.slice p1 (num (zzN xi)).length c1] 59)
           have HE3 := hide (bel_next HE.out hb)
           refine append_ov rfl _ _ rfl wD.heap.size _ _ rfl (HO1.out.below hb) w1.heap.size 1 1 [((p1, (num (zzN xi)).length, c1), num (zzN xi))] rfl (tx_row w1 _ _ rfl 1 rfl (by omega)) (one_tx (T1.out.below hb)) (by have h9 := HFQ.out; omega) HE3.out.size ?_
           intro v5 w5 ho5 hbel5
           have O5 := hide ho5
           have HE5 := hide (hbel5 _ HE3.out)
           clear ho5 hbel5 hb HE3 HO1 HE T1
           go_wp2
           go_roundw
           case rel => exact ⟨q + 1, by omega, by go_num, (show Hid _ from by unfold Hid; rw [HNQ.out]; exact O5.out), HE5⟩
           case measure => simp [intOf]; omega
          ·obtain rfl : q = 5 := by omega
           have h9 := HO1.out
           rw [List.take_of_length_le (by rw [HL5.out]; exact Nat.le_refl _)] at h9
           obtain ⟨p9, c9, hv9, hpc, _⟩ := h9.open
           subst hv9
           have HPC := hide hpc
           clear hpc h9 HO1
           replace HK := hide (HK.out.below HE.out)
           replace HC := hide (bel_next HC.out HE.out)
           clear HE
           have HLL : Hid (∀ t ∈ bytesL ke :: h.map (fun n => num (zzN n)), t.length ≤ 100000) := fun t ht => by have h9 := HTX.out.1 t ht; omega
           have hN9 : (bytesL ke :: h.map (fun n => num (zzN n))).length ≤ 1000 := by have h9 := HTX.out.2; omega
           have HRS : Hid (pack (bytesL ke :: h.map (fun n => num (zzN n))) = accB (ke, h)) := rfl
           have HB9 : Hid (By (pack (bytesL ke :: h.map (fun n => num (zzN n))))) := accB_by (ke, h)
           rw [← HRS.out] at HNK
           generalize (bytesL ke :: h.map (fun n => num (zzN n))) = TS at *
           generalize TS.length = nT at *
           clear HTX HNU HL5 HRS
           go_wp2_with (first
            | (go_at_call 99; refine (refPack_any p9 _ c9 _ _ HPC.out hN9 HLL.out).mono ?_; rintro e w1 ⟨v9, rfl, ho9, hb⟩; obtain ⟨p1, c1, hv9, ht9⟩ := own_tx ho9 HB9.out; subst hv9; have T1 := hide ht9; replace HK := hide (HK.out.below hb); replace HC := hide (bel_next HC.out hb); clear ht9 ho9 hb)
            | (at_builtin; refine Stop.at ?_))
           unfold Stop
           have hb := bel1 w1 (.cells #[.slice p1 (pack TS).length c1] 59)
           have HC3 := hide (bel_next HC.out hb)
           refine append_ov rfl _ _ rfl wA.heap.size _ _ rfl (HK.out.below hb) w1.heap.size 1 1 [((p1, (pack TS).length, c1), pack TS)] rfl (tx_row w1 _ _ rfl 1 rfl (by omega)) (one_tx (T1.out.below hb)) (by have h9 := HFK.out; omega) HC3.out.size ?_
           intro v5 w5 ho5 hbel5
           have O5 := hide ho5
           have HC5 := hide (hbel5 _ HC3.out)
           clear ho5 hbel5 hb HC3 HK HC T1
           go_wp2
           go_roundw
           case rel => exact ⟨j + 1, by omega, by go_num, (show Hid _ from by unfold Hid; rw [HNK.out]; exact O5.out), HC5⟩
           case measure => simp [intOf]; omega
        ·obtain rfl : j = nx := by omega
         have h9 := HK.out
         rw [List.take_of_length_le (by rw [HSL.out]; exact Nat.le_refl _)] at h9
         obtain ⟨p9, c9, hv9, hpc, _⟩ := h9.open
         subst hv9
         have HPC := hide hpc
         clear hpc h9 HK
         replace HV := hide (HV.out.below HC.out)
         replace HB := hide (bel_next HB.out HC.out)
         clear HC
         have HTT : Hid (∀ t ∈ s.map accB, t.length ≤ 100000) := fun t ht => by
          obtain ⟨x, hx, rfl⟩ := List.mem_map.1 ht
          exact Nat.le_trans (accB_len (HSK.out.2 x hx)) (by decide)
         have hNN : (s.map accB).length ≤ 1000 := by rw [List.length_map]; have h9 := HSK.out.1; omega
         have HBY : Hid (By (pack (s.map accB))) := pack_by (fun p hp => by
          obtain ⟨x, _, rfl⟩ := List.mem_map.1 hp
          exact accB_by x)
         clear HSK HX HSL
         generalize s.map accB = PS at *
         generalize hnL : PS.length = nL at *
         go_wp2_with (first
          | (go_at_call 99; refine (refPack_any p9 _ c9 _ _ HPC.out hNN HTT.out).mono ?_; rintro e w1 ⟨v9, rfl, ho9, hb⟩; obtain ⟨p1, c1, hv9, ht9⟩ := own_tx ho9 HBY.out; subst hv9; have T1 := hide ht9; replace HV := hide (HV.out.below hb); replace HB := hide (bel_next HB.out hb); clear ht9 ho9 hb)
          | (at_builtin; refine Stop.at ?_))
         unfold Stop
         have hb := bel1 w1 (.cells #[.slice p1 (pack PS).length c1] 59)
         have HB3 := hide (bel_next HB.out hb)
         refine append_ov rfl _ _ rfl u.heap.size _ _ rfl (HV.out.below hb) w1.heap.size 1 1 [((p1, (pack PS).length, c1), pack PS)] rfl (tx_row w1 _ _ rfl 1 rfl (by omega)) (one_tx (T1.out.below hb)) (by have h9 := HFL.out; omega) HB3.out.size ?_
         intro v5 w5 ho5 hbel5
         have O5 := hide ho5
         have HB5 := hide (hbel5 _ HB3.out)
         clear ho5 hbel5 hb HB3 HV HB T1
         go_wp2
         go_roundw
         case rel => exact ⟨i + 1, by omega, by go_num, (show Hid _ from by unfold Hid; rw [HNX.out]; exact O5.out), HB5⟩
         case measure => simp [intOf]; omega
      ·obtain rfl : n3 = i := by omega
       have h9 := HV.out
       rw [List.take_of_length_le (by rw [LS.len HRM.out.a]; exact Nat.le_refl _)] at h9
       have HV3 := hide h9
       have HC3 := HB
       clear h9 HV HB hlt hi
       go_wp2
       clear b2
       go_loopw [3, 17] (fun V v wr => ∃ i : Nat, i ≤ n4 ∧ v = .int .i64 i ∧ Hid (OV u.heap.size wr V ((((([] : List (List Int)) ++ r.1.map (fun s => pack (s.map entB))) ++ r.2.1.map (fun s => pack (s.map celB))) ++ r.2.2.1.map (fun s => pack (s.map accB))) ++ (r.2.2.2.take i).map (fun s => pack (s.map notB)))) ∧ Hid (Below u.heap.size u wr)) (fun _ v _ => n4 - (intOf v).toNat)
       case atStart => exact ⟨0, by omega, rfl, (show OV _ _ _ _ from by simpa using HV3.out), HC3⟩
       case round =>
        clear HV3 HC3
        obtain ⟨i, hi, rfl, HV, HB⟩ := hrel
        have b3 := (HXP.out.below HB.out).cell 3 _ rfl
        by_cases hlt : i < n4
        ·obtain ⟨bt, ot, hpt⟩ := LS.addr HRM.out.g (by omega)
         subst hpt
         obtain ⟨px, nx, cx, s, hs, x0, hX, hcx⟩ := LS.at (LS.below kept_not HRM.out.g HB.out) i hlt
         have hi0 : (0 : Int) ≤ (i : Int) := by omega
         have hi1 : (i : Int) < (n4 : Int) := by omega
         have HSK := hide (HOK3.out s (List.mem_of_getElem? hs))
         have HNX : Hid ((((([] : List (List Int)) ++ r.1.map (fun s => pack (s.map entB))) ++ r.2.1.map (fun s => pack (s.map celB))) ++ r.2.2.1.map (fun s => pack (s.map accB))) ++ (r.2.2.2.take (i + 1)).map (fun s => pack (s.map notB)) = ((((([] : List (List Int)) ++ r.1.map (fun s => pack (s.map entB))) ++ r.2.1.map (fun s => pack (s.map celB))) ++ r.2.2.1.map (fun s => pack (s.map accB))) ++ (r.2.2.2.take i).map (fun s => pack (s.map notB))) ++ [pack (s.map notB)]) := by
          unfold Hid
          rw [take_snocL hs, List.map_append]
          simp
         have HFL : Hid (((((([] : List (List Int)) ++ r.1.map (fun s => pack (s.map entB))) ++ r.2.1.map (fun s => pack (s.map celB))) ++ r.2.2.1.map (fun s => pack (s.map accB))) ++ (r.2.2.2.take i).map (fun s => pack (s.map notB))).length ≤ 900) := by
          unfold Hid
          simp only [List.length_append, List.length_map, List.length_take, List.length_nil]
          have h1 := HLN.out
          omega
         have HX := hide hX
         have HSL := hide ((kept_not).len hX)
         have hnx : nx ≤ 900 := by have h9 := HSL.out; have h8 := HSK.out.1; omega
         have X0 := hide x0
         have B0 := hide b3
         clear hs hX hcx
         go_wp2
         have HK0 := hide (OV.made wr wr.heap.size (Nat.le_refl _))
         have HC0 := hide (bel1 wr (.cells #[] 59))
         clear x0 b3
         generalize hwz : wr.alloc (.cells #[] 59) = wz at *
         clear hwz
         generalize hww : wr = wA at *
         clear hww
         go_loopw [18, 19] (fun K v wr => ∃ j : Nat, j ≤ nx ∧ v = .int .i64 j ∧ Hid (OV wA.heap.size wr K ((s.take j).map notB)) ∧ Hid (Below wA.heap.size wA wr)) (fun _ v _ => nx - (intOf v).toNat)
         case atStart => exact ⟨0, by omega, rfl, HK0, HC0⟩
         case round =>
          clear HK0 HC0
          obtain ⟨j, hj, rfl, HK, HC⟩ := hrel
          have b3 := bcell HC.out B0.out
          have x0 := bcell HC.out X0.out
          by_cases hlj : j < nx
          ·obtain ⟨bx, ox, hpx⟩ := HX.out.addr (by omega)
           subst hpx
           have hj0 : (0 : Int) ≤ (j : Int) := by omega
           have hj1 : (j : Int) < (nx : Int) := by omega
           have HFK : Hid (((s.take j).map notB).length ≤ 900) := by
            unfold Hid
            rw [List.length_map, List.length_take]
            have h9 := HSL.out
            have h8 := HSK.out.1
            omega
           obtain ⟨ke, ta, rp, sw, hx, z0, z1, z2, z3⟩ := (HX.out.below HC.out).at j hlj
           have HPX := HSK.out.2 _ (List.mem_of_getElem? hx)
           have hsk : ke.size ≤ maxLen := by have q := (mayNt_iff.1 HPX).1; unfold mayK at q; rw [decide_eq_true_iff] at q; unfold maxLen; simp only at q; omega
           have hb1 : 0 ≤ ta ∧ ta ≤ 9223372036854775807 := by have q := (mayNt_iff.1 HPX).2.1; simp only at q; omega
           have hb2 : 0 ≤ rp ∧ rp ≤ 9223372036854775807 := by have q := (mayNt_iff.1 HPX).2.2.1; simp only at q; omega
           have hwd : sw.size ≤ 64 := by have q := (mayNt_iff.1 HPX).2.2.2; simp only at q; omega
           have hks : ke.size ≤ 32 := by have q := (mayNt_iff.1 HPX).1; unfold mayK at q; rw [decide_eq_true_iff] at q; simp only at q; omega
           have hsw : sw.size ≤ maxLen := by unfold maxLen; omega
           have HNK : Hid ((s.take (j + 1)).map notB = (s.take j).map notB ++ [notB (ke, ta, rp, sw)]) := by
            unfold Hid
            rw [take_snocL hx, List.map_append]
            rfl
           have HLL : Hid (∀ p ∈ [bytesL ke, num ta, num rp, bytesL sw], p.length ≤ 100000) := by
            intro p hp
            have h9 := num_len9 ta
            have h10 := num_len9 rp
            have h8 := bytesL_len ke
            have h7 := bytesL_len sw
            simp only [List.mem_cons, List.not_mem_nil, or_false] at hp
            rcases hp with rfl | rfl | rfl | rfl <;> omega
           have HB9 : Hid (By (pack [bytesL ke, num ta, num rp, bytesL sw])) := notB_by (ke, ta, rp, sw)
           have hc1 : ∀ W, _ := fun W => conv13 W ke
           have hc2 : ∀ W, _ := fun W => conv13 W sw
           clear hx HPX
           go_upto_region 47 with fail
           have BQ := hide (bel1 wr (.cells #[.string ke, .int .i64 ta, .int .i64 rp, .string sw] 111))
           have HXB : Hid (BX (wr.alloc (.cells #[.string ke, .int .i64 ta, .int .i64 rp, .string sw] 111)) wr.heap.size #[.string ke, .int .i64 ta, .int .i64 rp, .string sw] 111) := BX.new wr _ rfl _ _
           replace HK := hide (HK.out.below BQ.out)
           replace HC := hide (bel_next HC.out BQ.out)
           clear b3 x0 z0 z1 z2 z3 BQ
           generalize hgx : wr.heap.size = gX at *
           clear hgx
           generalize hwx : wr.alloc (.cells #[.string ke, .int .i64 ta, .int .i64 rp, .string sw] 111) = wq at *
           clear hwx
           replace HK := hide (HK.out.below (Below.refl _ wq).drew)
           refine wp_region_held_drew (S := fun W => (Below wA.heap.size wA W ∧ BX W gX #[.string ke, .int .i64 ta, .int .i64 rp, .string sw] 111)) (by kernel_rfl) (⟨HC.out.drew, HXB.out.below (Below.refl _ wq).drew⟩) (fun hS0 => ?_)
           generalize wq.drew = wk0 at *
           refine tkJ 0 238 hS0 ?_; simp only [ly]
           refine tkJ 1 239 hS0 ?_; simp only [ly]
           refine tkL 2 240 hS0 ?h ?_; case h => (intro W hW; have e0 := hW.2.cell 0 _ rfl; have e1 := hW.2.cell 1 _ rfl; have e2 := hW.2.cell 2 _ rfl; have e3 := hW.2.cell 3 _ rfl; clear hW; go_simp; try rfl); simp only [ly]
           refine tkJ 4 242 hS0 ?_; simp only [ly]
           refine tkL 5 243 hS0 ?h ?_; case h => (intro W hW; have e0 := hW.2.cell 0 _ rfl; have e1 := hW.2.cell 1 _ rfl; have e2 := hW.2.cell 2 _ rfl; have e3 := hW.2.cell 3 _ rfl; clear hW; go_simp; try rfl); simp only [ly]
           refine tkJ 7 245 hS0 ?_; simp only [ly]
           refine tkL 8 246 hS0 ?h ?_; case h => (intro W hW; have e0 := hW.2.cell 0 _ rfl; have e1 := hW.2.cell 1 _ rfl; have e2 := hW.2.cell 2 _ rfl; have e3 := hW.2.cell 3 _ rfl; clear hW; go_simp; try rfl); simp only [ly]
           refine tkJ 10 248 hS0 ?_; simp only [ly]
           refine tkL 11 249 hS0 ?h ?_; case h => (intro W hW; have e0 := hW.2.cell 0 _ rfl; have e1 := hW.2.cell 1 _ rfl; have e2 := hW.2.cell 2 _ rfl; have e3 := hW.2.cell 3 _ rfl; clear hW; go_simp; try rfl); simp only [ly]
           have hke := hsk
           refine share_intro _ _ _ _ _ _ _ _ _ (fun Z => ∀ listed : Array Bool, listed = #[true, true, true, true, true, true, true, true, true, true, true, true, true, false, false, false, false, false] → ∀ (g5 : Nat) (c5 : Nat) (p8 : Option Addr) (c8 : Nat) (p11 : Option Addr) (c11 : Nat) (g14 : Nat) (c14 : Nat) (W : World), (Below wA.heap.size wA W ∧ BX W gX #[.string ke, .int .i64 ta, .int .i64 rp, .string sw] 111) → Hid (OV wA.heap.size W u18 ((s.take j).map notB)) → Hid (TX W (.slice (some ⟨g5, 0, none⟩) ke.size c5) (bytesL ke)) → Hid (TX W (.slice p8 (num ta).length c8) (num ta)) → Hid (TX W (.slice p11 (num rp).length c11) (num rp)) → Hid (TX W (.slice (some ⟨g14, 0, none⟩) sw.size c14) (bytesL sw)) → Z 5 listed ⟨#[.agg #[.slice p1 n1 c1, .slice p2 n2 c2, .slice p3 n3 c3, .slice (some ⟨bt, ot, none⟩) n4 c4], .pointer (some ⟨w.heap.size, 0, none⟩), .slice none 0 0, u3, .int .i64 (n1 : Int), u5, u6, u7, u8, .int .i64 (n2 : Int), u10, u11, .int .i64 (n3 : Int), u13, u14, u15, u16, .int .i64 (i : Int), u18, .int .i64 (j : Int), .pointer (some ⟨gX, 0, none⟩), .slice (some ⟨u.heap.size, 0, none⟩) 0 0, .int .i64 (n1 : Int), .pointer (some ⟨w.heap.size, 0, none⟩), .slice p1 n1 c1, .int .i64 (n1 : Int), .bool false, u27, u28, u29, u30, u31, u32, u33, u34, u35, u36, u37, u38, u39, u40, u41, u42, u43, u44, u45, u46, u47, u48, u49, u50, u51, u52, u53, u54, u55, u56, u57, u58, u59, u60, u61, u62, u63, u64, u65, u66, u67, u68, u69, u70, u71, u72, u73, u74, u75, u76, u77, u78, u79, u80, u81, u82, u83, u84, u85, u86, u87, u88, u89, u90, u91, u92, u93, u94, u95, u96, u97, u98, u99, u100, u101, u102, u103, u104, u105, .int .i64 (n2 : Int), .pointer (some ⟨w.heap.size, 1, none⟩), .slice p2 n2 c2, .int .i64 (n2 : Int), .bool false, u111, u112, u113, u114, u115, u116, u117, u118, u119, u120, u121, u122, u123, u124, u125, u126, u127, u128, u129, u130, u131, u132, u133, u134, u135, u136, u137, u138, u139, u140, u141, u142, u143, u144, u145, u146, u147, u148, u149, u150, u151, u152, u153, .int .i64 (n3 : Int), .pointer (some ⟨w.heap.size, 2, none⟩), .slice p3 n3 c3, .int .i64 (n3 : Int), .bool false, u159, u160, u161, u162, u163, u164, u165, u166, u167, u168, u169, u170, u171, u172, u173, u174, u175, u176, u177, u178, u179, u180, u181, u182, u183, u184, u185, u186, u187, u188, u189, u190, u191, u192, u193, u194, u195, u196, u197, u198, u199, u200, u201, u202, u203, u204, u205, u206, u207, u208, u209, u210, u211, .int .i64 (i : Int), .pointer (some ⟨w.heap.size, 3, none⟩), .slice (some ⟨bt, ot, none⟩) n4 c4, .int .i64 (n4 : Int), .bool true, u217, u218, .slice (some ⟨wA.heap.size, 0, none⟩) 0 0, .int .i64 (j : Int), .pointer (some ⟨w.heap.size, 3, none⟩), .slice (some ⟨bt, ot, none⟩) n4 c4, .int .i64 (i : Int), .pointer (some ⟨bt, ot + i, none⟩), .slice (some ⟨bx, ox, none⟩) nx cx, .int .i64 (nx : Int), .bool true, u228, u229, .pointer (some ⟨w.heap.size, 3, none⟩), .slice (some ⟨bt, ot, none⟩) n4 c4, .int .i64 (i : Int), .pointer (some ⟨bt, ot + i, none⟩), .slice (some ⟨bx, ox, none⟩) nx cx, .int .i64 (j : Int), .pointer (some ⟨bx, ox + j * 4, none⟩), .agg #[.string ke, .int .i64 ta, .int .i64 rp, .string sw], u18, .pointer (some ⟨gX, 0, none⟩), .string ke, .slice (some ⟨g5, 0, none⟩) ke.size c5, .pointer (some ⟨gX, 1, none⟩), .int .i64 ta, .slice p8 (num ta).length c8, .pointer (some ⟨gX, 2, none⟩), .int .i64 rp, .slice p11 (num rp).length c11, .pointer (some ⟨gX, 3, none⟩), .string sw, .slice (some ⟨g14, 0, none⟩) sw.size c14, u251, u252, u253, u254, u255, u256, u257, u258, u259, undef, undef], []⟩ W) ?_ (fun H1111 => ?_)
           ·intro listed hl g5 c5 p8 c8 p11 c11 g14 c14 W hS HK T5 T8 T11 T14
            subst hl
            generalize hWW : W = wk0 at *
            clear hWW
            have hS0 := hS
            clear hS
            refine wpAnyH_ready (rs := [13]) (by kernel_rfl) (by simp) ?_
            refine AllReadyH.cons rfl (fun K hK => ?_) AllReadyH.nil
            go_simp
            skip
            refine hK.out _ _ ?hs75 (fun hS1 => ?_)
            case hs75 => exact And.intro (bel_next hS0.1 (bel1 _ _)) (hS0.2.below (bel1 _ _))
            clear hK K
            try simp only [List.setIfInBounds_toArray, List.set_cons_zero, List.set_cons_succ]
            refine wpAnyH_ready (rs := [14]) (by kernel_rfl) (by simp) ?_
            refine AllReadyH.cons rfl (fun K hK => ?_) AllReadyH.nil
            go_simp
            refine (refPack_any _ 4 _ _ _ (PC.newT wk0 _ rfl [(_, bytesL ke), (_, num ta), (_, num rp), (_, bytesL sw)] _ rfl _ _ 4 rfl (by decide) ?_) (by decide) ?_).mono ?_
            ·simp only [List.mem_cons, List.not_mem_nil, or_false]
             rintro q (rfl | rfl | rfl | rfl)
             ·exact T5.out
             ·exact T8.out
             ·exact T11.out
             ·exact T14.out
            ·exact HLL.out
            rintro e wk2 ⟨vr, rfl, hO, hb⟩
            obtain ⟨p1, c1, hv9, ht9⟩ := own_tx hO HB9.out
            subst hv9
            have T1 := hide ht9
            replace HK := hide (HK.out.below (bel_next (bel1 wk0 _) hb))
            have BS9 := And.intro (bel_next hS1.1 hb) (hS1.2.below hb)
            clear hO ht9 hb
            refine hK.out _ _ ?hs76 (fun hS2 => ?_)
            case hs76 => exact BS9
            clear hK K
            try simp only [List.setIfInBounds_toArray, List.set_cons_zero, List.set_cons_succ]
            refine wpAnyH_ready (rs := [15]) (by kernel_rfl) (by simp) ?_
            refine AllReadyH.cons rfl (fun K hK => ?_) AllReadyH.nil
            go_simp
            have DB := hide (tx_row wk2 [((p1, (pack [bytesL ke, num ta, num rp, bytesL sw]).length, c1), pack [bytesL ke, num ta, num rp, bytesL sw])] #[.slice p1 (pack [bytesL ke, num ta, num rp, bytesL sw]).length c1] rfl 1 rfl (by omega))
            have hb := bel1 wk2 (.cells #[.slice p1 (pack [bytesL ke, num ta, num rp, bytesL sw]).length c1] 59)
            replace HK := hide (HK.out.below hb)
            replace T1 := hide (T1.out.below hb)
            have BS9 := And.intro (bel_next hS2.1 hb) (hS2.2.below hb)
            clear hb
            generalize hgw : wk2.heap.size = gw at DB ⊢
            clear hgw
            generalize wk2.alloc (.cells #[.slice p1 (pack [bytesL ke, num ta, num rp, bytesL sw]).length c1] 59) = wk3 at DB HK T1 BS9 ⊢
            refine hK.out _ _ ?hs77 (fun hS3 => ?_)
            case hs77 => exact BS9
            clear hK K
            try simp only [List.setIfInBounds_toArray, List.set_cons_zero, List.set_cons_succ]
            refine wpAnyH_ready (rs := [16]) (by kernel_rfl) (by simp) ?_
            refine AllReadyH.cons rfl (fun K hK => ?_) AllReadyH.nil
            rw [if_pos (by kernel_rfl)]
            refine append_ovw _ _ rfl wA.heap.size _ _ rfl HK.out gw 1 1 _ rfl DB.out (one_tx T1.out) (by have h9 := HFK.out; omega) hS3.1.size ?_
            intro v5 w5 ho5 hbel5 hbx5
            have O5 := hide ho5
            have BS5 := And.intro (hbel5 _ hS3.1) (hbx5 _ _ _ hS3.2 (by decide))
            clear ho5 hbel5 hbx5
            change K (Act.put _ (some 254) _) _
            refine hK.out _ _ ?hs78 (fun hS4 => ?_)
            case hs78 => exact BS5
            clear hK K
            try simp only [List.setIfInBounds_toArray, List.set_cons_zero, List.set_cons_succ]
            refine tkJ 17 18 hS4 ?_; simp only [ly]
            refine wpAnyH_done (by kernel_rfl) ?_ _
            go_wp2
            go_roundw
            case rel => exact ⟨j + 1, by omega, by go_num, (show Hid _ from by unfold Hid; rw [HNK.out]; exact O5.out), (show Hid _ from hS4.1)⟩
            case measure => simp [intOf]; omega
           refine share_intro _ _ _ _ _ _ _ _ _ (fun Z => ∀ listed : Array Bool, listed = #[true, true, true, true, true, true, true, true, true, true, true, true, false, false, false, false, false, false] → ∀ (g5 : Nat) (c5 : Nat) (p8 : Option Addr) (c8 : Nat) (p11 : Option Addr) (c11 : Nat) (W : World), (Below wA.heap.size wA W ∧ BX W gX #[.string ke, .int .i64 ta, .int .i64 rp, .string sw] 111) → Hid (OV wA.heap.size W u18 ((s.take j).map notB)) → Hid (TX W (.slice (some ⟨g5, 0, none⟩) ke.size c5) (bytesL ke)) → Hid (TX W (.slice p8 (num ta).length c8) (num ta)) → Hid (TX W (.slice p11 (num rp).length c11) (num rp)) → Z 6 listed ⟨#[.agg #[.slice p1 n1 c1, .slice p2 n2 c2, .slice p3 n3 c3, .slice (some ⟨bt, ot, none⟩) n4 c4], .pointer (some ⟨w.heap.size, 0, none⟩), .slice none 0 0, u3, .int .i64 (n1 : Int), u5, u6, u7, u8, .int .i64 (n2 : Int), u10, u11, .int .i64 (n3 : Int), u13, u14, u15, u16, .int .i64 (i : Int), u18, .int .i64 (j : Int), .pointer (some ⟨gX, 0, none⟩), .slice (some ⟨u.heap.size, 0, none⟩) 0 0, .int .i64 (n1 : Int), .pointer (some ⟨w.heap.size, 0, none⟩), .slice p1 n1 c1, .int .i64 (n1 : Int), .bool false, u27, u28, u29, u30, u31, u32, u33, u34, u35, u36, u37, u38, u39, u40, u41, u42, u43, u44, u45, u46, u47, u48, u49, u50, u51, u52, u53, u54, u55, u56, u57, u58, u59, u60, u61, u62, u63, u64, u65, u66, u67, u68, u69, u70, u71, u72, u73, u74, u75, u76, u77, u78, u79, u80, u81, u82, u83, u84, u85, u86, u87, u88, u89, u90, u91, u92, u93, u94, u95, u96, u97, u98, u99, u100, u101, u102, u103, u104, u105, .int .i64 (n2 : Int), .pointer (some ⟨w.heap.size, 1, none⟩), .slice p2 n2 c2, .int .i64 (n2 : Int), .bool false, u111, u112, u113, u114, u115, u116, u117, u118, u119, u120, u121, u122, u123, u124, u125, u126, u127, u128, u129, u130, u131, u132, u133, u134, u135, u136, u137, u138, u139, u140, u141, u142, u143, u144, u145, u146, u147, u148, u149, u150, u151, u152, u153, .int .i64 (n3 : Int), .pointer (some ⟨w.heap.size, 2, none⟩), .slice p3 n3 c3, .int .i64 (n3 : Int), .bool false, u159, u160, u161, u162, u163, u164, u165, u166, u167, u168, u169, u170, u171, u172, u173, u174, u175, u176, u177, u178, u179, u180, u181, u182, u183, u184, u185, u186, u187, u188, u189, u190, u191, u192, u193, u194, u195, u196, u197, u198, u199, u200, u201, u202, u203, u204, u205, u206, u207, u208, u209, u210, u211, .int .i64 (i : Int), .pointer (some ⟨w.heap.size, 3, none⟩), .slice (some ⟨bt, ot, none⟩) n4 c4, .int .i64 (n4 : Int), .bool true, u217, u218, .slice (some ⟨wA.heap.size, 0, none⟩) 0 0, .int .i64 (j : Int), .pointer (some ⟨w.heap.size, 3, none⟩), .slice (some ⟨bt, ot, none⟩) n4 c4, .int .i64 (i : Int), .pointer (some ⟨bt, ot + i, none⟩), .slice (some ⟨bx, ox, none⟩) nx cx, .int .i64 (nx : Int), .bool true, u228, u229, .pointer (some ⟨w.heap.size, 3, none⟩), .slice (some ⟨bt, ot, none⟩) n4 c4, .int .i64 (i : Int), .pointer (some ⟨bt, ot + i, none⟩), .slice (some ⟨bx, ox, none⟩) nx cx, .int .i64 (j : Int), .pointer (some ⟨bx, ox + j * 4, none⟩), .agg #[.string ke, .int .i64 ta, .int .i64 rp, .string sw], u18, .pointer (some ⟨gX, 0, none⟩), .string ke, .slice (some ⟨g5, 0, none⟩) ke.size c5, .pointer (some ⟨gX, 1, none⟩), .int .i64 ta, .slice p8 (num ta).length c8, .pointer (some ⟨gX, 2, none⟩), .int .i64 rp, .slice p11 (num rp).length c11, .pointer (some ⟨gX, 3, none⟩), .string sw, u250, u251, u252, u253, u254, u255, u256, u257, u258, u259, undef, undef], []⟩ W) ?_ (fun H1110 => ?_)
           ·intro listed hl g5 c5 p8 c8 p11 c11 W hS HK T5 T8 T11
            subst hl
            refine wpAnyH_ready (rs := [12]) (by kernel_rfl) (by simp) ?_
            refine AllReadyH.cons rfl (fun K hK => ?_) AllReadyH.nil
            go_simp
            have T14 := hide (TX.made hS.1 sw hsw)
            refine hK.out _ _ ?hs80 (fun hS2 => ?_)
            case hs80 => exact And.intro (bel_next hS.1 (conv_bel _ _ sw)) (hS.2.below (conv_bel _ _ sw))
            try simp only [List.setIfInBounds_toArray, List.set_cons_zero, List.set_cons_succ]
            exact H1111 _ (by kernel_rfl) g5 c5 p8 c8 p11 c11 _ _ _ hS2 (hide (HK.out.below (conv_bel _ _ sw))) (hide (T5.out.below (conv_bel _ _ sw))) (hide (T8.out.below (conv_bel _ _ sw))) (hide (T11.out.below (conv_bel _ _ sw))) T14
           refine share_intro _ _ _ _ _ _ _ _ _ (fun Z => ∀ listed : Array Bool, listed = #[true, true, true, true, true, true, true, true, true, false, true, true, true, false, false, false, false, false] → ∀ (g5 : Nat) (c5 : Nat) (p8 : Option Addr) (c8 : Nat) (g14 : Nat) (c14 : Nat) (W : World), (Below wA.heap.size wA W ∧ BX W gX #[.string ke, .int .i64 ta, .int .i64 rp, .string sw] 111) → Hid (OV wA.heap.size W u18 ((s.take j).map notB)) → Hid (TX W (.slice (some ⟨g5, 0, none⟩) ke.size c5) (bytesL ke)) → Hid (TX W (.slice p8 (num ta).length c8) (num ta)) → Hid (TX W (.slice (some ⟨g14, 0, none⟩) sw.size c14) (bytesL sw)) → Z 6 listed ⟨#[.agg #[.slice p1 n1 c1, .slice p2 n2 c2, .slice p3 n3 c3, .slice (some ⟨bt, ot, none⟩) n4 c4], .pointer (some ⟨w.heap.size, 0, none⟩), .slice none 0 0, u3, .int .i64 (n1 : Int), u5, u6, u7, u8, .int .i64 (n2 : Int), u10, u11, .int .i64 (n3 : Int), u13, u14, u15, u16, .int .i64 (i : Int), u18, .int .i64 (j : Int), .pointer (some ⟨gX, 0, none⟩), .slice (some ⟨u.heap.size, 0, none⟩) 0 0, .int .i64 (n1 : Int), .pointer (some ⟨w.heap.size, 0, none⟩), .slice p1 n1 c1, .int .i64 (n1 : Int), .bool false, u27, u28, u29, u30, u31, u32, u33, u34, u35, u36, u37, u38, u39, u40, u41, u42, u43, u44, u45, u46, u47, u48, u49, u50, u51, u52, u53, u54, u55, u56, u57, u58, u59, u60, u61, u62, u63, u64, u65, u66, u67, u68, u69, u70, u71, u72, u73, u74, u75, u76, u77, u78, u79, u80, u81, u82, u83, u84, u85, u86, u87, u88, u89, u90, u91, u92, u93, u94, u95, u96, u97, u98, u99, u100, u101, u102, u103, u104, u105, .int .i64 (n2 : Int), .pointer (some ⟨w.heap.size, 1, none⟩), .slice p2 n2 c2, .int .i64 (n2 : Int), .bool false, u111, u112, u113, u114, u115, u116, u117, u118, u119, u120, u121, u122, u123, u124, u125, u126, u127, u128, u129, u130, u131, u132, u133, u134, u135, u136, u137, u138, u139, u140, u141, u142, u143, u144, u145, u146, u147, u148, u149, u150, u151, u152, u153, .int .i64 (n3 : Int), .pointer (some ⟨w.heap.size, 2, none⟩), .slice p3 n3 c3, .int .i64 (n3 : Int), .bool false, u159, u160, u161, u162, u163, u164, u165, u166, u167, u168, u169, u170, u171, u172, u173, u174, u175, u176, u177, u178, u179, u180, u181, u182, u183, u184, u185, u186, u187, u188, u189, u190, u191, u192, u193, u194, u195, u196, u197, u198, u199, u200, u201, u202, u203, u204, u205, u206, u207, u208, u209, u210, u211, .int .i64 (i : Int), .pointer (some ⟨w.heap.size, 3, none⟩), .slice (some ⟨bt, ot, none⟩) n4 c4, .int .i64 (n4 : Int), .bool true, u217, u218, .slice (some ⟨wA.heap.size, 0, none⟩) 0 0, .int .i64 (j : Int), .pointer (some ⟨w.heap.size, 3, none⟩), .slice (some ⟨bt, ot, none⟩) n4 c4, .int .i64 (i : Int), .pointer (some ⟨bt, ot + i, none⟩), .slice (some ⟨bx, ox, none⟩) nx cx, .int .i64 (nx : Int), .bool true, u228, u229, .pointer (some ⟨w.heap.size, 3, none⟩), .slice (some ⟨bt, ot, none⟩) n4 c4, .int .i64 (i : Int), .pointer (some ⟨bt, ot + i, none⟩), .slice (some ⟨bx, ox, none⟩) nx cx, .int .i64 (j : Int), .pointer (some ⟨bx, ox + j * 4, none⟩), .agg #[.string ke, .int .i64 ta, .int .i64 rp, .string sw], u18, .pointer (some ⟨gX, 0, none⟩), .string ke, .slice (some ⟨g5, 0, none⟩) ke.size c5, .pointer (some ⟨gX, 1, none⟩), .int .i64 ta, .slice p8 (num ta).length c8, .pointer (some ⟨gX, 2, none⟩), .int .i64 rp, u247, .pointer (some ⟨gX, 3, none⟩), .string sw, .slice (some ⟨g14, 0, none⟩) sw.size c14, u251, u252, u253, u254, u255, u256, u257, u258, u259, undef, undef], []⟩ W) ?_ (fun H1101 => ?_)
           ·intro listed hl g5 c5 p8 c8 g14 c14 W hS HK T5 T8 T14
            subst hl
            refine wpAnyH_ready (rs := [9]) (by kernel_rfl) (by simp) ?_
            refine AllReadyH.cons rfl (fun K hK => ?_) AllReadyH.nil
            go_simp
            refine (nat13 rp _ hb2.1 hb2.2).mono ?_
            rintro e w' ⟨v, rfl, hO, hb⟩
            obtain ⟨p11, c11, hv, hB, hC⟩ := hO.open (num_by rp)
            subst hv
            have T11 := hide (⟨_, _, _, rfl, hB, hC⟩ : TX w' (.slice p11 (num rp).length c11) (num rp))
            clear hO hB hC
            try go_wp2_with fail
            refine hK.out _ _ ?hs81 (fun hS2 => ?_)
            case hs81 => exact And.intro (bel_next hS.1 hb) (hS.2.below hb)
            try simp only [List.setIfInBounds_toArray, List.set_cons_zero, List.set_cons_succ]
            exact H1111 _ (by kernel_rfl) g5 c5 p8 c8 p11 c11 g14 c14 _ hS2 (hide (HK.out.below hb)) (hide (T5.out.below hb)) (hide (T8.out.below hb)) T11 (hide (T14.out.below hb))
           refine share_intro _ _ _ _ _ _ _ _ _ (fun Z => ∀ listed : Array Bool, listed = #[true, true, true, false, true, true, true, true, true, true, true, true, true, false, false, false, false, false] → ∀ (p8 : Option Addr) (c8 : Nat) (p11 : Option Addr) (c11 : Nat) (g14 : Nat) (c14 : Nat) (W : World), (Below wA.heap.size wA W ∧ BX W gX #[.string ke, .int .i64 ta, .int .i64 rp, .string sw] 111) → Hid (OV wA.heap.size W u18 ((s.take j).map notB)) → Hid (TX W (.slice p8 (num ta).length c8) (num ta)) → Hid (TX W (.slice p11 (num rp).length c11) (num rp)) → Hid (TX W (.slice (some ⟨g14, 0, none⟩) sw.size c14) (bytesL sw)) → Z 6 listed ⟨#[.agg #[.slice p1 n1 c1, .slice p2 n2 c2, .slice p3 n3 c3, .slice (some ⟨bt, ot, none⟩) n4 c4], .pointer (some ⟨w.heap.size, 0, none⟩), .slice none 0 0, u3, .int .i64 (n1 : Int), u5, u6, u7, u8, .int .i64 (n2 : Int), u10, u11, .int .i64 (n3 : Int), u13, u14, u15, u16, .int .i64 (i : Int), u18, .int .i64 (j : Int), .pointer (some ⟨gX, 0, none⟩), .slice (some ⟨u.heap.size, 0, none⟩) 0 0, .int .i64 (n1 : Int), .pointer (some ⟨w.heap.size, 0, none⟩), .slice p1 n1 c1, .int .i64 (n1 : Int), .bool false, u27, u28, u29, u30, u31, u32, u33, u34, u35, u36, u37, u38, u39, u40, u41, u42, u43, u44, u45, u46, u47, u48, u49, u50, u51, u52, u53, u54, u55, u56, u57, u58, u59, u60, u61, u62, u63, u64, u65, u66, u67, u68, u69, u70, u71, u72, u73, u74, u75, u76, u77, u78, u79, u80, u81, u82, u83, u84, u85, u86, u87, u88, u89, u90, u91, u92, u93, u94, u95, u96, u97, u98, u99, u100, u101, u102, u103, u104, u105, .int .i64 (n2 : Int), .pointer (some ⟨w.heap.size, 1, none⟩), .slice p2 n2 c2, .int .i64 (n2 : Int), .bool false, u111, u112, u113, u114, u115, u116, u117, u118, u119, u120, u121, u122, u123, u124, u125, u126, u127, u128, u129, u130, u131, u132, u133, u134, u135, u136, u137, u138, u139, u140, u141, u142, u143, u144, u145, u146, u147, u148, u149, u150, u151, u152, u153, .int .i64 (n3 : Int), .pointer (some ⟨w.heap.size, 2, none⟩), .slice p3 n3 c3, .int .i64 (n3 : Int), .bool false, u159, u160, u161, u162, u163, u164, u165, u166, u167, u168, u169, u170, u171, u172, u173, u174, u175, u176, u177, u178, u179, u180, u181, u182, u183, u184, u185, u186, u187, u188, u189, u190, u191, u192, u193, u194, u195, u196, u197, u198, u199, u200, u201, u202, u203, u204, u205, u206, u207, u208, u209, u210, u211, .int .i64 (i : Int), .pointer (some ⟨w.heap.size, 3, none⟩), .slice (some ⟨bt, ot, none⟩) n4 c4, .int .i64 (n4 : Int), .bool true, u217, u218, .slice (some ⟨wA.heap.size, 0, none⟩) 0 0, .int .i64 (j : Int), .pointer (some ⟨w.heap.size, 3, none⟩), .slice (some ⟨bt, ot, none⟩) n4 c4, .int .i64 (i : Int), .pointer (some ⟨bt, ot + i, none⟩), .slice (some ⟨bx, ox, none⟩) nx cx, .int .i64 (nx : Int), .bool true, u228, u229, .pointer (some ⟨w.heap.size, 3, none⟩), .slice (some ⟨bt, ot, none⟩) n4 c4, .int .i64 (i : Int), .pointer (some ⟨bt, ot + i, none⟩), .slice (some ⟨bx, ox, none⟩) nx cx, .int .i64 (j : Int), .pointer (some ⟨bx, ox + j * 4, none⟩), .agg #[.string ke, .int .i64 ta, .int .i64 rp, .string sw], u18, .pointer (some ⟨gX, 0, none⟩), .string ke, u241, .pointer (some ⟨gX, 1, none⟩), .int .i64 ta, .slice p8 (num ta).length c8, .pointer (some ⟨gX, 2, none⟩), .int .i64 rp, .slice p11 (num rp).length c11, .pointer (some ⟨gX, 3, none⟩), .string sw, .slice (some ⟨g14, 0, none⟩) sw.size c14, u251, u252, u253, u254, u255, u256, u257, u258, u259, undef, undef], []⟩ W) ?_ (fun H0111 => ?_)
           ·intro listed hl p8 c8 p11 c11 g14 c14 W hS HK T8 T11 T14
            subst hl
            refine wpAnyH_ready (rs := [3]) (by kernel_rfl) (by simp) ?_
            refine AllReadyH.cons rfl (fun K hK => ?_) AllReadyH.nil
            go_simp
            have T5 := hide (TX.made hS.1 ke hke)
            refine hK.out _ _ ?hs82 (fun hS2 => ?_)
            case hs82 => exact And.intro (bel_next hS.1 (conv_bel _ _ ke)) (hS.2.below (conv_bel _ _ ke))
            try simp only [List.setIfInBounds_toArray, List.set_cons_zero, List.set_cons_succ]
            exact H1111 _ (by kernel_rfl) _ _ p8 c8 p11 c11 g14 c14 _ hS2 (hide (HK.out.below (conv_bel _ _ ke))) T5 (hide (T8.out.below (conv_bel _ _ ke))) (hide (T11.out.below (conv_bel _ _ ke))) (hide (T14.out.below (conv_bel _ _ ke)))
           refine share_intro _ _ _ _ _ _ _ _ _ (fun Z => ∀ listed : Array Bool, listed = #[true, true, true, true, true, true, true, true, true, false, true, true, false, false, false, false, false, false] → ∀ (g5 : Nat) (c5 : Nat) (p8 : Option Addr) (c8 : Nat) (W : World), (Below wA.heap.size wA W ∧ BX W gX #[.string ke, .int .i64 ta, .int .i64 rp, .string sw] 111) → Hid (OV wA.heap.size W u18 ((s.take j).map notB)) → Hid (TX W (.slice (some ⟨g5, 0, none⟩) ke.size c5) (bytesL ke)) → Hid (TX W (.slice p8 (num ta).length c8) (num ta)) → Z 7 listed ⟨#[.agg #[.slice p1 n1 c1, .slice p2 n2 c2, .slice p3 n3 c3, .slice (some ⟨bt, ot, none⟩) n4 c4], .pointer (some ⟨w.heap.size, 0, none⟩), .slice none 0 0, u3, .int .i64 (n1 : Int), u5, u6, u7, u8, .int .i64 (n2 : Int), u10, u11, .int .i64 (n3 : Int), u13, u14, u15, u16, .int .i64 (i : Int), u18, .int .i64 (j : Int), .pointer (some ⟨gX, 0, none⟩), .slice (some ⟨u.heap.size, 0, none⟩) 0 0, .int .i64 (n1 : Int), .pointer (some ⟨w.heap.size, 0, none⟩), .slice p1 n1 c1, .int .i64 (n1 : Int), .bool false, u27, u28, u29, u30, u31, u32, u33, u34, u35, u36, u37, u38, u39, u40, u41, u42, u43, u44, u45, u46, u47, u48, u49, u50, u51, u52, u53, u54, u55, u56, u57, u58, u59, u60, u61, u62, u63, u64, u65, u66, u67, u68, u69, u70, u71, u72, u73, u74, u75, u76, u77, u78, u79, u80, u81, u82, u83, u84, u85, u86, u87, u88, u89, u90, u91, u92, u93, u94, u95, u96, u97, u98, u99, u100, u101, u102, u103, u104, u105, .int .i64 (n2 : Int), .pointer (some ⟨w.heap.size, 1, none⟩), .slice p2 n2 c2, .int .i64 (n2 : Int), .bool false, u111, u112, u113, u114, u115, u116, u117, u118, u119, u120, u121, u122, u123, u124, u125, u126, u127, u128, u129, u130, u131, u132, u133, u134, u135, u136, u137, u138, u139, u140, u141, u142, u143, u144, u145, u146, u147, u148, u149, u150, u151, u152, u153, .int .i64 (n3 : Int), .pointer (some ⟨w.heap.size, 2, none⟩), .slice p3 n3 c3, .int .i64 (n3 : Int), .bool false, u159, u160, u161, u162, u163, u164, u165, u166, u167, u168, u169, u170, u171, u172, u173, u174, u175, u176, u177, u178, u179, u180, u181, u182, u183, u184, u185, u186, u187, u188, u189, u190, u191, u192, u193, u194, u195, u196, u197, u198, u199, u200, u201, u202, u203, u204, u205, u206, u207, u208, u209, u210, u211, .int .i64 (i : Int), .pointer (some ⟨w.heap.size, 3, none⟩), .slice (some ⟨bt, ot, none⟩) n4 c4, .int .i64 (n4 : Int), .bool true, u217, u218, .slice (some ⟨wA.heap.size, 0, none⟩) 0 0, .int .i64 (j : Int), .pointer (some ⟨w.heap.size, 3, none⟩), .slice (some ⟨bt, ot, none⟩) n4 c4, .int .i64 (i : Int), .pointer (some ⟨bt, ot + i, none⟩), .slice (some ⟨bx, ox, none⟩) nx cx, .int .i64 (nx : Int), .bool true, u228, u229, .pointer (some ⟨w.heap.size, 3, none⟩), .slice (some ⟨bt, ot, none⟩) n4 c4, .int .i64 (i : Int), .pointer (some ⟨bt, ot + i, none⟩), .slice (some ⟨bx, ox, none⟩) nx cx, .int .i64 (j : Int), .pointer (some ⟨bx, ox + j * 4, none⟩), .agg #[.string ke, .int .i64 ta, .int .i64 rp, .string sw], u18, .pointer (some ⟨gX, 0, none⟩), .string ke, .slice (some ⟨g5, 0, none⟩) ke.size c5, .pointer (some ⟨gX, 1, none⟩), .int .i64 ta, .slice p8 (num ta).length c8, .pointer (some ⟨gX, 2, none⟩), .int .i64 rp, u247, .pointer (some ⟨gX, 3, none⟩), .string sw, u250, u251, u252, u253, u254, u255, u256, u257, u258, u259, undef, undef], []⟩ W) ?_ (fun H1100 => ?_)
           ·intro listed hl g5 c5 p8 c8 W hS HK T5 T8
            subst hl
            refine wpAnyH_ready (rs := [9, 12]) (by kernel_rfl) (by simp) ?_
            refine AllReadyH.cons rfl (fun K hK => ?_) (AllReadyH.cons rfl (fun K hK => ?_) AllReadyH.nil)
            ·go_simp
             refine (nat13 rp _ hb2.1 hb2.2).mono ?_
             rintro e w' ⟨v, rfl, hO, hb⟩
             obtain ⟨p11, c11, hv, hB, hC⟩ := hO.open (num_by rp)
             subst hv
             have T11 := hide (⟨_, _, _, rfl, hB, hC⟩ : TX w' (.slice p11 (num rp).length c11) (num rp))
             clear hO hB hC
             try go_wp2_with fail
             refine hK.out _ _ ?hs83 (fun hS2 => ?_)
             case hs83 => exact And.intro (bel_next hS.1 hb) (hS.2.below hb)
             try simp only [List.setIfInBounds_toArray, List.set_cons_zero, List.set_cons_succ]
             exact H1110 _ (by kernel_rfl) g5 c5 p8 c8 p11 c11 _ hS2 (hide (HK.out.below hb)) (hide (T5.out.below hb)) (hide (T8.out.below hb)) T11
            ·go_simp
             have T14 := hide (TX.made hS.1 sw hsw)
             refine hK.out _ _ ?hs84 (fun hS2 => ?_)
             case hs84 => exact And.intro (bel_next hS.1 (conv_bel _ _ sw)) (hS.2.below (conv_bel _ _ sw))
             try simp only [List.setIfInBounds_toArray, List.set_cons_zero, List.set_cons_succ]
             exact H1101 _ (by kernel_rfl) g5 c5 p8 c8 _ _ _ hS2 (hide (HK.out.below (conv_bel _ _ sw))) (hide (T5.out.below (conv_bel _ _ sw))) (hide (T8.out.below (conv_bel _ _ sw))) T14
           refine share_intro _ _ _ _ _ _ _ _ _ (fun Z => ∀ listed : Array Bool, listed = #[true, true, true, true, true, true, false, true, true, false, true, true, true, false, false, false, false, false] → ∀ (g5 : Nat) (c5 : Nat) (g14 : Nat) (c14 : Nat) (W : World), (Below wA.heap.size wA W ∧ BX W gX #[.string ke, .int .i64 ta, .int .i64 rp, .string sw] 111) → Hid (OV wA.heap.size W u18 ((s.take j).map notB)) → Hid (TX W (.slice (some ⟨g5, 0, none⟩) ke.size c5) (bytesL ke)) → Hid (TX W (.slice (some ⟨g14, 0, none⟩) sw.size c14) (bytesL sw)) → Z 7 listed ⟨#[.agg #[.slice p1 n1 c1, .slice p2 n2 c2, .slice p3 n3 c3, .slice (some ⟨bt, ot, none⟩) n4 c4], .pointer (some ⟨w.heap.size, 0, none⟩), .slice none 0 0, u3, .int .i64 (n1 : Int), u5, u6, u7, u8, .int .i64 (n2 : Int), u10, u11, .int .i64 (n3 : Int), u13, u14, u15, u16, .int .i64 (i : Int), u18, .int .i64 (j : Int), .pointer (some ⟨gX, 0, none⟩), .slice (some ⟨u.heap.size, 0, none⟩) 0 0, .int .i64 (n1 : Int), .pointer (some ⟨w.heap.size, 0, none⟩), .slice p1 n1 c1, .int .i64 (n1 : Int), .bool false, u27, u28, u29, u30, u31, u32, u33, u34, u35, u36, u37, u38, u39, u40, u41, u42, u43, u44, u45, u46, u47, u48, u49, u50, u51, u52, u53, u54, u55, u56, u57, u58, u59, u60, u61, u62, u63, u64, u65, u66, u67, u68, u69, u70, u71, u72, u73, u74, u75, u76, u77, u78, u79, u80, u81, u82, u83, u84, u85, u86, u87, u88, u89, u90, u91, u92, u93, u94, u95, u96, u97, u98, u99, u100, u101, u102, u103, u104, u105, .int .i64 (n2 : Int), .pointer (some ⟨w.heap.size, 1, none⟩), .slice p2 n2 c2, .int .i64 (n2 : Int), .bool false, u111, u112, u113, u114, u115, u116, u117, u118, u119, u120, u121, u122, u123, u124, u125, u126, u127, u128, u129, u130, u131, u132, u133, u134, u135, u136, u137, u138, u139, u140, u141, u142, u143, u144, u145, u146, u147, u148, u149, u150, u151, u152, u153, .int .i64 (n3 : Int), .pointer (some ⟨w.heap.size, 2, none⟩), .slice p3 n3 c3, .int .i64 (n3 : Int), .bool false, u159, u160, u161, u162, u163, u164, u165, u166, u167, u168, u169, u170, u171, u172, u173, u174, u175, u176, u177, u178, u179, u180, u181, u182, u183, u184, u185, u186, u187, u188, u189, u190, u191, u192, u193, u194, u195, u196, u197, u198, u199, u200, u201, u202, u203, u204, u205, u206, u207, u208, u209, u210, u211, .int .i64 (i : Int), .pointer (some ⟨w.heap.size, 3, none⟩), .slice (some ⟨bt, ot, none⟩) n4 c4, .int .i64 (n4 : Int), .bool true, u217, u218, .slice (some ⟨wA.heap.size, 0, none⟩) 0 0, .int .i64 (j : Int), .pointer (some ⟨w.heap.size, 3, none⟩), .slice (some ⟨bt, ot, none⟩) n4 c4, .int .i64 (i : Int), .pointer (some ⟨bt, ot + i, none⟩), .slice (some ⟨bx, ox, none⟩) nx cx, .int .i64 (nx : Int), .bool true, u228, u229, .pointer (some ⟨w.heap.size, 3, none⟩), .slice (some ⟨bt, ot, none⟩) n4 c4, .int .i64 (i : Int), .pointer (some ⟨bt, ot + i, none⟩), .slice (some ⟨bx, ox, none⟩) nx cx, .int .i64 (j : Int), .pointer (some ⟨bx, ox + j * 4, none⟩), .agg #[.string ke, .int .i64 ta, .int .i64 rp, .string sw], u18, .pointer (some ⟨gX, 0, none⟩), .string ke, .slice (some ⟨g5, 0, none⟩) ke.size c5, .pointer (some ⟨gX, 1, none⟩), .int .i64 ta, u244, .pointer (some ⟨gX, 2, none⟩), .int .i64 rp, u247, .pointer (some ⟨gX, 3, none⟩), .string sw, .slice (some ⟨g14, 0, none⟩) sw.size c14, u251, u252, u253, u254, u255, u256, u257, u258, u259, undef, undef], []⟩ W) ?_ (fun H1001 => ?_)
           ·intro listed hl g5 c5 g14 c14 W hS HK T5 T14
            subst hl
            refine wpAnyH_ready (rs := [6]) (by kernel_rfl) (by simp) ?_
            refine AllReadyH.cons rfl (fun K hK => ?_) AllReadyH.nil
            go_simp
            refine (nat13 ta _ hb1.1 hb1.2).mono ?_
            rintro e w' ⟨v, rfl, hO, hb⟩
            obtain ⟨p8, c8, hv, hB, hC⟩ := hO.open (num_by ta)
            subst hv
            have T8 := hide (⟨_, _, _, rfl, hB, hC⟩ : TX w' (.slice p8 (num ta).length c8) (num ta))
            clear hO hB hC
            try go_wp2_with fail
            refine hK.out _ _ ?hs85 (fun hS2 => ?_)
            case hs85 => exact And.intro (bel_next hS.1 hb) (hS.2.below hb)
            try simp only [List.setIfInBounds_toArray, List.set_cons_zero, List.set_cons_succ]
            exact H1101 _ (by kernel_rfl) g5 c5 p8 c8 g14 c14 _ hS2 (hide (HK.out.below hb)) (hide (T5.out.below hb)) T8 (hide (T14.out.below hb))
           refine share_intro _ _ _ _ _ _ _ _ _ (fun Z => ∀ listed : Array Bool, listed = #[true, true, true, false, true, true, true, true, true, true, true, true, false, false, false, false, false, false] → ∀ (p8 : Option Addr) (c8 : Nat) (p11 : Option Addr) (c11 : Nat) (W : World), (Below wA.heap.size wA W ∧ BX W gX #[.string ke, .int .i64 ta, .int .i64 rp, .string sw] 111) → Hid (OV wA.heap.size W u18 ((s.take j).map notB)) → Hid (TX W (.slice p8 (num ta).length c8) (num ta)) → Hid (TX W (.slice p11 (num rp).length c11) (num rp)) → Z 7 listed ⟨#[.agg #[.slice p1 n1 c1, .slice p2 n2 c2, .slice p3 n3 c3, .slice (some ⟨bt, ot, none⟩) n4 c4], .pointer (some ⟨w.heap.size, 0, none⟩), .slice none 0 0, u3, .int .i64 (n1 : Int), u5, u6, u7, u8, .int .i64 (n2 : Int), u10, u11, .int .i64 (n3 : Int), u13, u14, u15, u16, .int .i64 (i : Int), u18, .int .i64 (j : Int), .pointer (some ⟨gX, 0, none⟩), .slice (some ⟨u.heap.size, 0, none⟩) 0 0, .int .i64 (n1 : Int), .pointer (some ⟨w.heap.size, 0, none⟩), .slice p1 n1 c1, .int .i64 (n1 : Int), .bool false, u27, u28, u29, u30, u31, u32, u33, u34, u35, u36, u37, u38, u39, u40, u41, u42, u43, u44, u45, u46, u47, u48, u49, u50, u51, u52, u53, u54, u55, u56, u57, u58, u59, u60, u61, u62, u63, u64, u65, u66, u67, u68, u69, u70, u71, u72, u73, u74, u75, u76, u77, u78, u79, u80, u81, u82, u83, u84, u85, u86, u87, u88, u89, u90, u91, u92, u93, u94, u95, u96, u97, u98, u99, u100, u101, u102, u103, u104, u105, .int .i64 (n2 : Int), .pointer (some ⟨w.heap.size, 1, none⟩), .slice p2 n2 c2, .int .i64 (n2 : Int), .bool false, u111, u112, u113, u114, u115, u116, u117, u118, u119, u120, u121, u122, u123, u124, u125, u126, u127, u128, u129, u130, u131, u132, u133, u134, u135, u136, u137, u138, u139, u140, u141, u142, u143, u144, u145, u146, u147, u148, u149, u150, u151, u152, u153, .int .i64 (n3 : Int), .pointer (some ⟨w.heap.size, 2, none⟩), .slice p3 n3 c3, .int .i64 (n3 : Int), .bool false, u159, u160, u161, u162, u163, u164, u165, u166, u167, u168, u169, u170, u171, u172, u173, u174, u175, u176, u177, u178, u179, u180, u181, u182, u183, u184, u185, u186, u187, u188, u189, u190, u191, u192, u193, u194, u195, u196, u197, u198, u199, u200, u201, u202, u203, u204, u205, u206, u207, u208, u209, u210, u211, .int .i64 (i : Int), .pointer (some ⟨w.heap.size, 3, none⟩), .slice (some ⟨bt, ot, none⟩) n4 c4, .int .i64 (n4 : Int), .bool true, u217, u218, .slice (some ⟨wA.heap.size, 0, none⟩) 0 0, .int .i64 (j : Int), .pointer (some ⟨w.heap.size, 3, none⟩), .slice (some ⟨bt, ot, none⟩) n4 c4, .int .i64 (i : Int), .pointer (some ⟨bt, ot + i, none⟩), .slice (some ⟨bx, ox, none⟩) nx cx, .int .i64 (nx : Int), .bool true, u228, u229, .pointer (some ⟨w.heap.size, 3, none⟩), .slice (some ⟨bt, ot, none⟩) n4 c4, .int .i64 (i : Int), .pointer (some ⟨bt, ot + i, none⟩), .slice (some ⟨bx, ox, none⟩) nx cx, .int .i64 (j : Int), .pointer (some ⟨bx, ox + j * 4, none⟩), .agg #[.string ke, .int .i64 ta, .int .i64 rp, .string sw], u18, .pointer (some ⟨gX, 0, none⟩), .string ke, u241, .pointer (some ⟨gX, 1, none⟩), .int .i64 ta, .slice p8 (num ta).length c8, .pointer (some ⟨gX, 2, none⟩), .int .i64 rp, .slice p11 (num rp).length c11, .pointer (some ⟨gX, 3, none⟩), .string sw, u250, u251, u252, u253, u254, u255, u256, u257, u258, u259, undef, undef], []⟩ W) ?_ (fun H0110 => ?_)
           ·intro listed hl p8 c8 p11 c11 W hS HK T8 T11
            subst hl
            refine wpAnyH_ready (rs := [3, 12]) (by kernel_rfl) (by simp) ?_
            refine AllReadyH.cons rfl (fun K hK => ?_) (AllReadyH.cons rfl (fun K hK => ?_) AllReadyH.nil)
            ·go_simp
             have T5 := hide (TX.made hS.1 ke hke)
             refine hK.out _ _ ?hs86 (fun hS2 => ?_)
             case hs86 => exact And.intro (bel_next hS.1 (conv_bel _ _ ke)) (hS.2.below (conv_bel _ _ ke))
             try simp only [List.setIfInBounds_toArray, List.set_cons_zero, List.set_cons_succ]
             exact H1110 _ (by kernel_rfl) _ _ p8 c8 p11 c11 _ hS2 (hide (HK.out.below (conv_bel _ _ ke))) T5 (hide (T8.out.below (conv_bel _ _ ke))) (hide (T11.out.below (conv_bel _ _ ke)))
            ·go_simp
             have T14 := hide (TX.made hS.1 sw hsw)
             refine hK.out _ _ ?hs87 (fun hS2 => ?_)
             case hs87 => exact And.intro (bel_next hS.1 (conv_bel _ _ sw)) (hS.2.below (conv_bel _ _ sw))
             try simp only [List.setIfInBounds_toArray, List.set_cons_zero, List.set_cons_succ]
             exact H0111 _ (by kernel_rfl) p8 c8 p11 c11 _ _ _ hS2 (hide (HK.out.below (conv_bel _ _ sw))) (hide (T8.out.below (conv_bel _ _ sw))) (hide (T11.out.below (conv_bel _ _ sw))) T14
           refine share_intro _ _ _ _ _ _ _ _ _ (fun Z => ∀ listed : Array Bool, listed = #[true, true, true, false, true, true, true, true, true, false, true, true, true, false, false, false, false, false] → ∀ (p8 : Option Addr) (c8 : Nat) (g14 : Nat) (c14 : Nat) (W : World), (Below wA.heap.size wA W ∧ BX W gX #[.string ke, .int .i64 ta, .int .i64 rp, .string sw] 111) → Hid (OV wA.heap.size W u18 ((s.take j).map notB)) → Hid (TX W (.slice p8 (num ta).length c8) (num ta)) → Hid (TX W (.slice (some ⟨g14, 0, none⟩) sw.size c14) (bytesL sw)) → Z 7 listed ⟨#[.agg #[.slice p1 n1 c1, .slice p2 n2 c2, .slice p3 n3 c3, .slice (some ⟨bt, ot, none⟩) n4 c4], .pointer (some ⟨w.heap.size, 0, none⟩), .slice none 0 0, u3, .int .i64 (n1 : Int), u5, u6, u7, u8, .int .i64 (n2 : Int), u10, u11, .int .i64 (n3 : Int), u13, u14, u15, u16, .int .i64 (i : Int), u18, .int .i64 (j : Int), .pointer (some ⟨gX, 0, none⟩), .slice (some ⟨u.heap.size, 0, none⟩) 0 0, .int .i64 (n1 : Int), .pointer (some ⟨w.heap.size, 0, none⟩), .slice p1 n1 c1, .int .i64 (n1 : Int), .bool false, u27, u28, u29, u30, u31, u32, u33, u34, u35, u36, u37, u38, u39, u40, u41, u42, u43, u44, u45, u46, u47, u48, u49, u50, u51, u52, u53, u54, u55, u56, u57, u58, u59, u60, u61, u62, u63, u64, u65, u66, u67, u68, u69, u70, u71, u72, u73, u74, u75, u76, u77, u78, u79, u80, u81, u82, u83, u84, u85, u86, u87, u88, u89, u90, u91, u92, u93, u94, u95, u96, u97, u98, u99, u100, u101, u102, u103, u104, u105, .int .i64 (n2 : Int), .pointer (some ⟨w.heap.size, 1, none⟩), .slice p2 n2 c2, .int .i64 (n2 : Int), .bool false, u111, u112, u113, u114, u115, u116, u117, u118, u119, u120, u121, u122, u123, u124, u125, u126, u127, u128, u129, u130, u131, u132, u133, u134, u135, u136, u137, u138, u139, u140, u141, u142, u143, u144, u145, u146, u147, u148, u149, u150, u151, u152, u153, .int .i64 (n3 : Int), .pointer (some ⟨w.heap.size, 2, none⟩), .slice p3 n3 c3, .int .i64 (n3 : Int), .bool false, u159, u160, u161, u162, u163, u164, u165, u166, u167, u168, u169, u170, u171, u172, u173, u174, u175, u176, u177, u178, u179, u180, u181, u182, u183, u184, u185, u186, u187, u188, u189, u190, u191, u192, u193, u194, u195, u196, u197, u198, u199, u200, u201, u202, u203, u204, u205, u206, u207, u208, u209, u210, u211, .int .i64 (i : Int), .pointer (some ⟨w.heap.size, 3, none⟩), .slice (some ⟨bt, ot, none⟩) n4 c4, .int .i64 (n4 : Int), .bool true, u217, u218, .slice (some ⟨wA.heap.size, 0, none⟩) 0 0, .int .i64 (j : Int), .pointer (some ⟨w.heap.size, 3, none⟩), .slice (some ⟨bt, ot, none⟩) n4 c4, .int .i64 (i : Int), .pointer (some ⟨bt, ot + i, none⟩), .slice (some ⟨bx, ox, none⟩) nx cx, .int .i64 (nx : Int), .bool true, u228, u229, .pointer (some ⟨w.heap.size, 3, none⟩), .slice (some ⟨bt, ot, none⟩) n4 c4, .int .i64 (i : Int), .pointer (some ⟨bt, ot + i, none⟩), .slice (some ⟨bx, ox, none⟩) nx cx, .int .i64 (j : Int), .pointer (some ⟨bx, ox + j * 4, none⟩), .agg #[.string ke, .int .i64 ta, .int .i64 rp, .string sw], u18, .pointer (some ⟨gX, 0, none⟩), .string ke, u241, .pointer (some ⟨gX, 1, none⟩), .int .i64 ta, .slice p8 (num ta).length c8, .pointer (some ⟨gX, 2, none⟩), .int .i64 rp, u247, .pointer (some ⟨gX, 3, none⟩), .string sw, .slice (some ⟨g14, 0, none⟩) sw.size c14, u251, u252, u253, u254, u255, u256, u257, u258, u259, undef, undef], []⟩ W) ?_ (fun H0101 => ?_)
           ·intro listed hl p8 c8 g14 c14 W hS HK T8 T14
            subst hl
            refine wpAnyH_ready (rs := [3, 9]) (by kernel_rfl) (by simp) ?_
            refine AllReadyH.cons rfl (fun K hK => ?_) (AllReadyH.cons rfl (fun K hK => ?_) AllReadyH.nil)
            ·go_simp
             have T5 := hide (TX.made hS.1 ke hke)
             refine hK.out _ _ ?hs88 (fun hS2 => ?_)
             case hs88 => exact And.intro (bel_next hS.1 (conv_bel _ _ ke)) (hS.2.below (conv_bel _ _ ke))
             try simp only [List.setIfInBounds_toArray, List.set_cons_zero, List.set_cons_succ]
             exact H1101 _ (by kernel_rfl) _ _ p8 c8 g14 c14 _ hS2 (hide (HK.out.below (conv_bel _ _ ke))) T5 (hide (T8.out.below (conv_bel _ _ ke))) (hide (T14.out.below (conv_bel _ _ ke)))
            ·go_simp
             refine (nat13 rp _ hb2.1 hb2.2).mono ?_
             rintro e w' ⟨v, rfl, hO, hb⟩
             obtain ⟨p11, c11, hv, hB, hC⟩ := hO.open (num_by rp)
             subst hv
             have T11 := hide (⟨_, _, _, rfl, hB, hC⟩ : TX w' (.slice p11 (num rp).length c11) (num rp))
             clear hO hB hC
             try go_wp2_with fail
             refine hK.out _ _ ?hs89 (fun hS2 => ?_)
             case hs89 => exact And.intro (bel_next hS.1 hb) (hS.2.below hb)
             try simp only [List.setIfInBounds_toArray, List.set_cons_zero, List.set_cons_succ]
             exact H0111 _ (by kernel_rfl) p8 c8 p11 c11 g14 c14 _ hS2 (hide (HK.out.below hb)) (hide (T8.out.below hb)) T11 (hide (T14.out.below hb))
           refine share_intro _ _ _ _ _ _ _ _ _ (fun Z => ∀ listed : Array Bool, listed = #[true, true, true, true, true, true, false, true, true, false, true, true, false, false, false, false, false, false] → ∀ (g5 : Nat) (c5 : Nat) (W : World), (Below wA.heap.size wA W ∧ BX W gX #[.string ke, .int .i64 ta, .int .i64 rp, .string sw] 111) → Hid (OV wA.heap.size W u18 ((s.take j).map notB)) → Hid (TX W (.slice (some ⟨g5, 0, none⟩) ke.size c5) (bytesL ke)) → Z 8 listed ⟨#[.agg #[.slice p1 n1 c1, .slice p2 n2 c2, .slice p3 n3 c3, .slice (some ⟨bt, ot, none⟩) n4 c4], .pointer (some ⟨w.heap.size, 0, none⟩), .slice none 0 0, u3, .int .i64 (n1 : Int), u5, u6, u7, u8, .int .i64 (n2 : Int), u10, u11, .int .i64 (n3 : Int), u13, u14, u15, u16, .int .i64 (i : Int), u18, .int .i64 (j : Int), .pointer (some ⟨gX, 0, none⟩), .slice (some ⟨u.heap.size, 0, none⟩) 0 0, .int .i64 (n1 : Int), .pointer (some ⟨w.heap.size, 0, none⟩), .slice p1 n1 c1, .int .i64 (n1 : Int), .bool false, u27, u28, u29, u30, u31, u32, u33, u34, u35, u36, u37, u38, u39, u40, u41, u42, u43, u44, u45, u46, u47, u48, u49, u50, u51, u52, u53, u54, u55, u56, u57, u58, u59, u60, u61, u62, u63, u64, u65, u66, u67, u68, u69, u70, u71, u72, u73, u74, u75, u76, u77, u78, u79, u80, u81, u82, u83, u84, u85, u86, u87, u88, u89, u90, u91, u92, u93, u94, u95, u96, u97, u98, u99, u100, u101, u102, u103, u104, u105, .int .i64 (n2 : Int), .pointer (some ⟨w.heap.size, 1, none⟩), .slice p2 n2 c2, .int .i64 (n2 : Int), .bool false, u111, u112, u113, u114, u115, u116, u117, u118, u119, u120, u121, u122, u123, u124, u125, u126, u127, u128, u129, u130, u131, u132, u133, u134, u135, u136, u137, u138, u139, u140, u141, u142, u143, u144, u145, u146, u147, u148, u149, u150, u151, u152, u153, .int .i64 (n3 : Int), .pointer (some ⟨w.heap.size, 2, none⟩), .slice p3 n3 c3, .int .i64 (n3 : Int), .bool false, u159, u160, u161, u162, u163, u164, u165, u166, u167, u168, u169, u170, u171, u172, u173, u174, u175, u176, u177, u178, u179, u180, u181, u182, u183, u184, u185, u186, u187, u188, u189, u190, u191, u192, u193, u194, u195, u196, u197, u198, u199, u200, u201, u202, u203, u204, u205, u206, u207, u208, u209, u210, u211, .int .i64 (i : Int), .pointer (some ⟨w.heap.size, 3, none⟩), .slice (some ⟨bt, ot, none⟩) n4 c4, .int .i64 (n4 : Int), .bool true, u217, u218, .slice (some ⟨wA.heap.size, 0, none⟩) 0 0, .int .i64 (j : Int), .pointer (some ⟨w.heap.size, 3, none⟩), .slice (some ⟨bt, ot, none⟩) n4 c4, .int .i64 (i : Int), .pointer (some ⟨bt, ot + i, none⟩), .slice (some ⟨bx, ox, none⟩) nx cx, .int .i64 (nx : Int), .bool true, u228, u229, .pointer (some ⟨w.heap.size, 3, none⟩), .slice (some ⟨bt, ot, none⟩) n4 c4, .int .i64 (i : Int), .pointer (some ⟨bt, ot + i, none⟩), .slice (some ⟨bx, ox, none⟩) nx cx, .int .i64 (j : Int), .pointer (some ⟨bx, ox + j * 4, none⟩), .agg #[.string ke, .int .i64 ta, .int .i64 rp, .string sw], u18, .pointer (some ⟨gX, 0, none⟩), .string ke, .slice (some ⟨g5, 0, none⟩) ke.size c5, .pointer (some ⟨gX, 1, none⟩), .int .i64 ta, u244, .pointer (some ⟨gX, 2, none⟩), .int .i64 rp, u247, .pointer (some ⟨gX, 3, none⟩), .string sw, u250, u251, u252, u253, u254, u255, u256, u257, u258, u259, undef, undef], []⟩ W) ?_ (fun H1000 => ?_)
           ·intro listed hl g5 c5 W hS HK T5
            subst hl
            refine wpAnyH_ready (rs := [6, 12]) (by kernel_rfl) (by simp) ?_
            refine AllReadyH.cons rfl (fun K hK => ?_) (AllReadyH.cons rfl (fun K hK => ?_) AllReadyH.nil)
            ·go_simp
             refine (nat13 ta _ hb1.1 hb1.2).mono ?_
             rintro e w' ⟨v, rfl, hO, hb⟩
             obtain ⟨p8, c8, hv, hB, hC⟩ := hO.open (num_by ta)
             subst hv
             have T8 := hide (⟨_, _, _, rfl, hB, hC⟩ : TX w' (.slice p8 (num ta).length c8) (num ta))
             clear hO hB hC
             try go_wp2_with fail
             refine hK.out _ _ ?hs90 (fun hS2 => ?_)
             case hs90 => exact And.intro (bel_next hS.1 hb) (hS.2.below hb)
             try simp only [List.setIfInBounds_toArray, List.set_cons_zero, List.set_cons_succ]
             exact H1100 _ (by kernel_rfl) g5 c5 p8 c8 _ hS2 (hide (HK.out.below hb)) (hide (T5.out.below hb)) T8
            ·go_simp
             have T14 := hide (TX.made hS.1 sw hsw)
             refine hK.out _ _ ?hs91 (fun hS2 => ?_)
             case hs91 => exact And.intro (bel_next hS.1 (conv_bel _ _ sw)) (hS.2.below (conv_bel _ _ sw))
             try simp only [List.setIfInBounds_toArray, List.set_cons_zero, List.set_cons_succ]
             exact H1001 _ (by kernel_rfl) g5 c5 _ _ _ hS2 (hide (HK.out.below (conv_bel _ _ sw))) (hide (T5.out.below (conv_bel _ _ sw))) T14
           refine share_intro _ _ _ _ _ _ _ _ _ (fun Z => ∀ listed : Array Bool, listed = #[true, true, true, false, true, true, true, true, true, false, true, true, false, false, false, false, false, false] → ∀ (p8 : Option Addr) (c8 : Nat) (W : World), (Below wA.heap.size wA W ∧ BX W gX #[.string ke, .int .i64 ta, .int .i64 rp, .string sw] 111) → Hid (OV wA.heap.size W u18 ((s.take j).map notB)) → Hid (TX W (.slice p8 (num ta).length c8) (num ta)) → Z 8 listed ⟨#[.agg #[.slice p1 n1 c1, .slice p2 n2 c2, .slice p3 n3 c3, .slice (some ⟨bt, ot, none⟩) n4 c4], .pointer (some ⟨w.heap.size, 0, none⟩), .slice none 0 0, u3, .int .i64 (n1 : Int), u5, u6, u7, u8, .int .i64 (n2 : Int), u10, u11, .int .i64 (n3 : Int), u13, u14, u15, u16, .int .i64 (i : Int), u18, .int .i64 (j : Int), .pointer (some ⟨gX, 0, none⟩), .slice (some ⟨u.heap.size, 0, none⟩) 0 0, .int .i64 (n1 : Int), .pointer (some ⟨w.heap.size, 0, none⟩), .slice p1 n1 c1, .int .i64 (n1 : Int), .bool false, u27, u28, u29, u30, u31, u32, u33, u34, u35, u36, u37, u38, u39, u40, u41, u42, u43, u44, u45, u46, u47, u48, u49, u50, u51, u52, u53, u54, u55, u56, u57, u58, u59, u60, u61, u62, u63, u64, u65, u66, u67, u68, u69, u70, u71, u72, u73, u74, u75, u76, u77, u78, u79, u80, u81, u82, u83, u84, u85, u86, u87, u88, u89, u90, u91, u92, u93, u94, u95, u96, u97, u98, u99, u100, u101, u102, u103, u104, u105, .int .i64 (n2 : Int), .pointer (some ⟨w.heap.size, 1, none⟩), .slice p2 n2 c2, .int .i64 (n2 : Int), .bool false, u111, u112, u113, u114, u115, u116, u117, u118, u119, u120, u121, u122, u123, u124, u125, u126, u127, u128, u129, u130, u131, u132, u133, u134, u135, u136, u137, u138, u139, u140, u141, u142, u143, u144, u145, u146, u147, u148, u149, u150, u151, u152, u153, .int .i64 (n3 : Int), .pointer (some ⟨w.heap.size, 2, none⟩), .slice p3 n3 c3, .int .i64 (n3 : Int), .bool false, u159, u160, u161, u162, u163, u164, u165, u166, u167, u168, u169, u170, u171, u172, u173, u174, u175, u176, u177, u178, u179, u180, u181, u182, u183, u184, u185, u186, u187, u188, u189, u190, u191, u192, u193, u194, u195, u196, u197, u198, u199, u200, u201, u202, u203, u204, u205, u206, u207, u208, u209, u210, u211, .int .i64 (i : Int), .pointer (some ⟨w.heap.size, 3, none⟩), .slice (some ⟨bt, ot, none⟩) n4 c4, .int .i64 (n4 : Int), .bool true, u217, u218, .slice (some ⟨wA.heap.size, 0, none⟩) 0 0, .int .i64 (j : Int), .pointer (some ⟨w.heap.size, 3, none⟩), .slice (some ⟨bt, ot, none⟩) n4 c4, .int .i64 (i : Int), .pointer (some ⟨bt, ot + i, none⟩), .slice (some ⟨bx, ox, none⟩) nx cx, .int .i64 (nx : Int), .bool true, u228, u229, .pointer (some ⟨w.heap.size, 3, none⟩), .slice (some ⟨bt, ot, none⟩) n4 c4, .int .i64 (i : Int), .pointer (some ⟨bt, ot + i, none⟩), .slice (some ⟨bx, ox, none⟩) nx cx, .int .i64 (j : Int), .pointer (some ⟨bx, ox + j * 4, none⟩), .agg #[.string ke, .int .i64 ta, .int .i64 rp, .string sw], u18, .pointer (some ⟨gX, 0, none⟩), .string ke, u241, .pointer (some ⟨gX, 1, none⟩), .int .i64 ta, .slice p8 (num ta).length c8, .pointer (some ⟨gX, 2, none⟩), .int .i64 rp, u247, .pointer (some ⟨gX, 3, none⟩), .string sw, u250, u251, u252, u253, u254, u255, u256, u257, u258, u259, undef, undef], []⟩ W) ?_ (fun H0100 => ?_)
           ·intro listed hl p8 c8 W hS HK T8
            subst hl
            refine wpAnyH_ready (rs := [3, 9, 12]) (by kernel_rfl) (by simp) ?_
            refine AllReadyH.cons rfl (fun K hK => ?_) (AllReadyH.cons rfl (fun K hK => ?_) (AllReadyH.cons rfl (fun K hK => ?_) AllReadyH.nil))
            ·go_simp
             have T5 := hide (TX.made hS.1 ke hke)
             refine hK.out _ _ ?hs92 (fun hS2 => ?_)
             case hs92 => exact And.intro (bel_next hS.1 (conv_bel _ _ ke)) (hS.2.below (conv_bel _ _ ke))
             try simp only [List.setIfInBounds_toArray, List.set_cons_zero, List.set_cons_succ]
             exact H1100 _ (by kernel_rfl) _ _ p8 c8 _ hS2 (hide (HK.out.below (conv_bel _ _ ke))) T5 (hide (T8.out.below (conv_bel _ _ ke)))
            ·go_simp
             refine (nat13 rp _ hb2.1 hb2.2).mono ?_
             rintro e w' ⟨v, rfl, hO, hb⟩
             obtain ⟨p11, c11, hv, hB, hC⟩ := hO.open (num_by rp)
             subst hv
             have T11 := hide (⟨_, _, _, rfl, hB, hC⟩ : TX w' (.slice p11 (num rp).length c11) (num rp))
             clear hO hB hC
             try go_wp2_with fail
             refine hK.out _ _ ?hs93 (fun hS2 => ?_)
             case hs93 => exact And.intro (bel_next hS.1 hb) (hS.2.below hb)
             try simp only [List.setIfInBounds_toArray, List.set_cons_zero, List.set_cons_succ]
             exact H0110 _ (by kernel_rfl) p8 c8 p11 c11 _ hS2 (hide (HK.out.below hb)) (hide (T8.out.below hb)) T11
            ·go_simp
             have T14 := hide (TX.made hS.1 sw hsw)
             refine hK.out _ _ ?hs94 (fun hS2 => ?_)
             case hs94 => exact And.intro (bel_next hS.1 (conv_bel _ _ sw)) (hS.2.below (conv_bel _ _ sw))
             try simp only [List.setIfInBounds_toArray, List.set_cons_zero, List.set_cons_succ]
             exact H0101 _ (by kernel_rfl) p8 c8 _ _ _ hS2 (hide (HK.out.below (conv_bel _ _ sw))) (hide (T8.out.below (conv_bel _ _ sw))) T14
           refine share_intro _ _ _ _ _ _ _ _ _ (fun Z => ∀ listed : Array Bool, listed = #[true, true, true, false, true, true, false, true, true, false, true, true, true, false, false, false, false, false] → ∀ (g14 : Nat) (c14 : Nat) (W : World), (Below wA.heap.size wA W ∧ BX W gX #[.string ke, .int .i64 ta, .int .i64 rp, .string sw] 111) → Hid (OV wA.heap.size W u18 ((s.take j).map notB)) → Hid (TX W (.slice (some ⟨g14, 0, none⟩) sw.size c14) (bytesL sw)) → Z 8 listed ⟨#[.agg #[.slice p1 n1 c1, .slice p2 n2 c2, .slice p3 n3 c3, .slice (some ⟨bt, ot, none⟩) n4 c4], .pointer (some ⟨w.heap.size, 0, none⟩), .slice none 0 0, u3, .int .i64 (n1 : Int), u5, u6, u7, u8, .int .i64 (n2 : Int), u10, u11, .int .i64 (n3 : Int), u13, u14, u15, u16, .int .i64 (i : Int), u18, .int .i64 (j : Int), .pointer (some ⟨gX, 0, none⟩), .slice (some ⟨u.heap.size, 0, none⟩) 0 0, .int .i64 (n1 : Int), .pointer (some ⟨w.heap.size, 0, none⟩), .slice p1 n1 c1, .int .i64 (n1 : Int), .bool false, u27, u28, u29, u30, u31, u32, u33, u34, u35, u36, u37, u38, u39, u40, u41, u42, u43, u44, u45, u46, u47, u48, u49, u50, u51, u52, u53, u54, u55, u56, u57, u58, u59, u60, u61, u62, u63, u64, u65, u66, u67, u68, u69, u70, u71, u72, u73, u74, u75, u76, u77, u78, u79, u80, u81, u82, u83, u84, u85, u86, u87, u88, u89, u90, u91, u92, u93, u94, u95, u96, u97, u98, u99, u100, u101, u102, u103, u104, u105, .int .i64 (n2 : Int), .pointer (some ⟨w.heap.size, 1, none⟩), .slice p2 n2 c2, .int .i64 (n2 : Int), .bool false, u111, u112, u113, u114, u115, u116, u117, u118, u119, u120, u121, u122, u123, u124, u125, u126, u127, u128, u129, u130, u131, u132, u133, u134, u135, u136, u137, u138, u139, u140, u141, u142, u143, u144, u145, u146, u147, u148, u149, u150, u151, u152, u153, .int .i64 (n3 : Int), .pointer (some ⟨w.heap.size, 2, none⟩), .slice p3 n3 c3, .int .i64 (n3 : Int), .bool false, u159, u160, u161, u162, u163, u164, u165, u166, u167, u168, u169, u170, u171, u172, u173, u174, u175, u176, u177, u178, u179, u180, u181, u182, u183, u184, u185, u186, u187, u188, u189, u190, u191, u192, u193, u194, u195, u196, u197, u198, u199, u200, u201, u202, u203, u204, u205, u206, u207, u208, u209, u210, u211, .int .i64 (i : Int), .pointer (some ⟨w.heap.size, 3, none⟩), .slice (some ⟨bt, ot, none⟩) n4 c4, .int .i64 (n4 : Int), .bool true, u217, u218, .slice (some ⟨wA.heap.size, 0, none⟩) 0 0, .int .i64 (j : Int), .pointer (some ⟨w.heap.size, 3, none⟩), .slice (some ⟨bt, ot, none⟩) n4 c4, .int .i64 (i : Int), .pointer (some ⟨bt, ot + i, none⟩), .slice (some ⟨bx, ox, none⟩) nx cx, .int .i64 (nx : Int), .bool true, u228, u229, .pointer (some ⟨w.heap.size, 3, none⟩), .slice (some ⟨bt, ot, none⟩) n4 c4, .int .i64 (i : Int), .pointer (some ⟨bt, ot + i, none⟩), .slice (some ⟨bx, ox, none⟩) nx cx, .int .i64 (j : Int), .pointer (some ⟨bx, ox + j * 4, none⟩), .agg #[.string ke, .int .i64 ta, .int .i64 rp, .string sw], u18, .pointer (some ⟨gX, 0, none⟩), .string ke, u241, .pointer (some ⟨gX, 1, none⟩), .int .i64 ta, u244, .pointer (some ⟨gX, 2, none⟩), .int .i64 rp, u247, .pointer (some ⟨gX, 3, none⟩), .string sw, .slice (some ⟨g14, 0, none⟩) sw.size c14, u251, u252, u253, u254, u255, u256, u257, u258, u259, undef, undef], []⟩ W) ?_ (fun H0001 => ?_)
           ·intro listed hl g14 c14 W hS HK T14
            subst hl
            refine wpAnyH_ready (rs := [3, 6]) (by kernel_rfl) (by simp) ?_
            refine AllReadyH.cons rfl (fun K hK => ?_) (AllReadyH.cons rfl (fun K hK => ?_) AllReadyH.nil)
            ·go_simp
             have T5 := hide (TX.made hS.1 ke hke)
             refine hK.out _ _ ?hs95 (fun hS2 => ?_)
             case hs95 => exact And.intro (bel_next hS.1 (conv_bel _ _ ke)) (hS.2.below (conv_bel _ _ ke))
             try simp only [List.setIfInBounds_toArray, List.set_cons_zero, List.set_cons_succ]
             exact H1001 _ (by kernel_rfl) _ _ g14 c14 _ hS2 (hide (HK.out.below (conv_bel _ _ ke))) T5 (hide (T14.out.below (conv_bel _ _ ke)))
            ·go_simp
             refine (nat13 ta _ hb1.1 hb1.2).mono ?_
             rintro e w' ⟨v, rfl, hO, hb⟩
             obtain ⟨p8, c8, hv, hB, hC⟩ := hO.open (num_by ta)
             subst hv
             have T8 := hide (⟨_, _, _, rfl, hB, hC⟩ : TX w' (.slice p8 (num ta).length c8) (num ta))
             clear hO hB hC
             try go_wp2_with fail
             refine hK.out _ _ ?hs96 (fun hS2 => ?_)
             case hs96 => exact And.intro (bel_next hS.1 hb) (hS.2.below hb)
             try simp only [List.setIfInBounds_toArray, List.set_cons_zero, List.set_cons_succ]
             exact H0101 _ (by kernel_rfl) p8 c8 g14 c14 _ hS2 (hide (HK.out.below hb)) T8 (hide (T14.out.below hb))
           refine share_intro _ _ _ _ _ _ _ _ _ (fun Z => ∀ listed : Array Bool, listed = #[true, true, true, false, true, true, false, true, true, false, true, true, false, false, false, false, false, false] → ∀ (W : World), (Below wA.heap.size wA W ∧ BX W gX #[.string ke, .int .i64 ta, .int .i64 rp, .string sw] 111) → Hid (OV wA.heap.size W u18 ((s.take j).map notB)) → Z 9 listed ⟨#[.agg #[.slice p1 n1 c1, .slice p2 n2 c2, .slice p3 n3 c3, .slice (some ⟨bt, ot, none⟩) n4 c4], .pointer (some ⟨w.heap.size, 0, none⟩), .slice none 0 0, u3, .int .i64 (n1 : Int), u5, u6, u7, u8, .int .i64 (n2 : Int), u10, u11, .int .i64 (n3 : Int), u13, u14, u15, u16, .int .i64 (i : Int), u18, .int .i64 (j : Int), .pointer (some ⟨gX, 0, none⟩), .slice (some ⟨u.heap.size, 0, none⟩) 0 0, .int .i64 (n1 : Int), .pointer (some ⟨w.heap.size, 0, none⟩), .slice p1 n1 c1, .int .i64 (n1 : Int), .bool false, u27, u28, u29, u30, u31, u32, u33, u34, u35, u36, u37, u38, u39, u40, u41, u42, u43, u44, u45, u46, u47, u48, u49, u50, u51, u52, u53, u54, u55, u56, u57, u58, u59, u60, u61, u62, u63, u64, u65, u66, u67, u68, u69, u70, u71, u72, u73, u74, u75, u76, u77, u78, u79, u80, u81, u82, u83, u84, u85, u86, u87, u88, u89, u90, u91, u92, u93, u94, u95, u96, u97, u98, u99, u100, u101, u102, u103, u104, u105, .int .i64 (n2 : Int), .pointer (some ⟨w.heap.size, 1, none⟩), .slice p2 n2 c2, .int .i64 (n2 : Int), .bool false, u111, u112, u113, u114, u115, u116, u117, u118, u119, u120, u121, u122, u123, u124, u125, u126, u127, u128, u129, u130, u131, u132, u133, u134, u135, u136, u137, u138, u139, u140, u141, u142, u143, u144, u145, u146, u147, u148, u149, u150, u151, u152, u153, .int .i64 (n3 : Int), .pointer (some ⟨w.heap.size, 2, none⟩), .slice p3 n3 c3, .int .i64 (n3 : Int), .bool false, u159, u160, u161, u162, u163, u164, u165, u166, u167, u168, u169, u170, u171, u172, u173, u174, u175, u176, u177, u178, u179, u180, u181, u182, u183, u184, u185, u186, u187, u188, u189, u190, u191, u192, u193, u194, u195, u196, u197, u198, u199, u200, u201, u202, u203, u204, u205, u206, u207, u208, u209, u210, u211, .int .i64 (i : Int), .pointer (some ⟨w.heap.size, 3, none⟩), .slice (some ⟨bt, ot, none⟩) n4 c4, .int .i64 (n4 : Int), .bool true, u217, u218, .slice (some ⟨wA.heap.size, 0, none⟩) 0 0, .int .i64 (j : Int), .pointer (some ⟨w.heap.size, 3, none⟩), .slice (some ⟨bt, ot, none⟩) n4 c4, .int .i64 (i : Int), .pointer (some ⟨bt, ot + i, none⟩), .slice (some ⟨bx, ox, none⟩) nx cx, .int .i64 (nx : Int), .bool true, u228, u229, .pointer (some ⟨w.heap.size, 3, none⟩), .slice (some ⟨bt, ot, none⟩) n4 c4, .int .i64 (i : Int), .pointer (some ⟨bt, ot + i, none⟩), .slice (some ⟨bx, ox, none⟩) nx cx, .int .i64 (j : Int), .pointer (some ⟨bx, ox + j * 4, none⟩), .agg #[.string ke, .int .i64 ta, .int .i64 rp, .string sw], u18, .pointer (some ⟨gX, 0, none⟩), .string ke, u241, .pointer (some ⟨gX, 1, none⟩), .int .i64 ta, u244, .pointer (some ⟨gX, 2, none⟩), .int .i64 rp, u247, .pointer (some ⟨gX, 3, none⟩), .string sw, u250, u251, u252, u253, u254, u255, u256, u257, u258, u259, undef, undef], []⟩ W) ?_ (fun H0000 => ?_)
           ·intro listed hl  W hS HK
            subst hl
            refine wpAnyH_ready (rs := [3, 6, 12]) (by kernel_rfl) (by simp) ?_
            refine AllReadyH.cons rfl (fun K hK => ?_) (AllReadyH.cons rfl (fun K hK => ?_) (AllReadyH.cons rfl (fun K hK => ?_) AllReadyH.nil))
            ·go_simp
             have T5 := hide (TX.made hS.1 ke hke)
             refine hK.out _ _ ?hs97 (fun hS2 => ?_)
             case hs97 => exact And.intro (bel_next hS.1 (conv_bel _ _ ke)) (hS.2.below (conv_bel _ _ ke))
             try simp only [List.setIfInBounds_toArray, List.set_cons_zero, List.set_cons_succ]
             exact H1000 _ (by kernel_rfl) _ _ _ hS2 (hide (HK.out.below (conv_bel _ _ ke))) T5
            ·go_simp
             refine (nat13 ta _ hb1.1 hb1.2).mono ?_
             rintro e w' ⟨v, rfl, hO, hb⟩
             obtain ⟨p8, c8, hv, hB, hC⟩ := hO.open (num_by ta)
             subst hv
             have T8 := hide (⟨_, _, _, rfl, hB, hC⟩ : TX w' (.slice p8 (num ta).length c8) (num ta))
             clear hO hB hC
             try go_wp2_with fail
             refine hK.out _ _ ?hs98 (fun hS2 => ?_)
             case hs98 => exact And.intro (bel_next hS.1 hb) (hS.2.below hb)
             try simp only [List.setIfInBounds_toArray, List.set_cons_zero, List.set_cons_succ]
             exact H0100 _ (by kernel_rfl) p8 c8 _ hS2 (hide (HK.out.below hb)) T8
            ·go_simp
             have T14 := hide (TX.made hS.1 sw hsw)
             refine hK.out _ _ ?hs99 (fun hS2 => ?_)
             case hs99 => exact And.intro (bel_next hS.1 (conv_bel _ _ sw)) (hS.2.below (conv_bel _ _ sw))
             try simp only [List.setIfInBounds_toArray, List.set_cons_zero, List.set_cons_succ]
             exact H0001 _ (by kernel_rfl) _ _ _ hS2 (hide (HK.out.below (conv_bel _ _ sw))) T14
           exact H0000 _ (by kernel_rfl) _ hS0 HK
          ·obtain rfl : j = nx := by omega
           have h9 := HK.out
           rw [List.take_of_length_le (by rw [HSL.out]; exact Nat.le_refl _)] at h9
           obtain ⟨p9, c9, hv9, hpc, _⟩ := h9.open
           subst hv9
           have HPC := hide hpc
           clear hpc h9 HK
           replace HV := hide (HV.out.below HC.out)
           replace HB := hide (bel_next HB.out HC.out)
           clear HC
           have HTT : Hid (∀ t ∈ s.map notB, t.length ≤ 100000) := fun t ht => by
            obtain ⟨x, hx, rfl⟩ := List.mem_map.1 ht
            exact Nat.le_trans (notB_len (HSK.out.2 x hx)) (by decide)
           have hNN : (s.map notB).length ≤ 1000 := by rw [List.length_map]; have h9 := HSK.out.1; omega
           have HBY : Hid (By (pack (s.map notB))) := pack_by (fun p hp => by
            obtain ⟨x, _, rfl⟩ := List.mem_map.1 hp
            exact notB_by x)
           clear HSK HX HSL
           generalize s.map notB = PS at *
           generalize hnL : PS.length = nL at *
           go_wp2_with (first
            | (go_at_call 99; refine (refPack_any p9 _ c9 _ _ HPC.out hNN HTT.out).mono ?_; rintro e w1 ⟨v9, rfl, ho9, hb⟩; obtain ⟨p1, c1, hv9, ht9⟩ := own_tx ho9 HBY.out; subst hv9; have T1 := hide ht9; replace HV := hide (HV.out.below hb); replace HB := hide (bel_next HB.out hb); clear ht9 ho9 hb)
            | (at_builtin; refine Stop.at ?_))
           unfold Stop
           have hb := bel1 w1 (.cells #[.slice p1 (pack PS).length c1] 59)
           have HB3 := hide (bel_next HB.out hb)
           refine append_ov rfl _ _ rfl u.heap.size _ _ rfl (HV.out.below hb) w1.heap.size 1 1 [((p1, (pack PS).length, c1), pack PS)] rfl (tx_row w1 _ _ rfl 1 rfl (by omega)) (one_tx (T1.out.below hb)) (by have h9 := HFL.out; omega) HB3.out.size ?_
           intro v5 w5 ho5 hbel5
           have O5 := hide ho5
           have HB5 := hide (hbel5 _ HB3.out)
           clear ho5 hbel5 hb HB3 HV HB T1
           go_wp2
           go_roundw
           case rel => exact ⟨i + 1, by omega, by go_num, (show Hid _ from by unfold Hid; rw [HNX.out]; exact O5.out), HB5⟩
           case measure => simp [intOf]; omega
        ·obtain rfl : n4 = i := by omega
         have h9 := HV.out
         rw [List.take_of_length_le (by rw [LS.len HRM.out.g]; exact Nat.le_refl _)] at h9
         have HV4 := hide h9
         have HC4 := HB
         clear h9 HV HB hlt hi
         have b3 := (HXP.out.below HC4.out).cell 3 _ rfl
         have HAB : Hid (((((([] : List (List Int)) ++ r.1.map (fun s => pack (s.map entB))) ++ r.2.1.map (fun s => pack (s.map celB))) ++ r.2.2.1.map (fun s => pack (s.map accB))) ++ r.2.2.2.map (fun s => pack (s.map notB))) = allB r) := by unfold Hid allB; simp
         rw [HAB.out] at HV4
         have HLA : Hid ((allB r).length ≤ 1000) := by
          unfold Hid allB
          simp only [List.length_append, List.length_map]
          have h1 := HLN.out
          omega
         obtain ⟨p9, c9, hv9, hpc, _⟩ := HV4.out.open
         subst hv9
         have HPC := hide hpc
         have HRS : Hid (pack (allB r) = bytRw r) := rfl
         clear hpc HV4 HAB
         generalize allB r = TS at *
         have hN9 : TS.length ≤ 1000 := HLA.out
         generalize TS.length = nT at *
         have HB4 := hide (bel_next HU.out HC4.out)
         go_wp2_with (go_at_call 99; refine (refPack_any p9 _ c9 _ _ HPC.out hN9 HTX.out).mono ?_; rintro e w9 ⟨v, rfl, ho, hb⟩; have HOW := hide (ho.mono HB4.out.size); replace HB4 := hide (bel_next HB4.out hb); clear ho hb)
         go_ret
         exact ⟨_, rfl, (by rw [← HRS.out]; exact HOW.out), HB4.out⟩
end Go.Proofs.YtkbbegbpkndebaaGreat

