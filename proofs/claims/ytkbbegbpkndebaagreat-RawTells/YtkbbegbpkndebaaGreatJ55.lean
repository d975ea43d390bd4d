/- Texts of this claim, joined: HP9. -/
import Derived.Test.YtkbbegbpkndebaaGreatJ54
/- accountBytes and appendPacks of layer 13 (the program). -/
namespace Go.Proofs.YtkbbegbpkndebaaGreat
open Go.RowKit Go.Lib
set_option linter.unusedVariables false
theorem atH_get {h : List Int} {i : Nat} (hi : i < h.length) : h[i]? = some (atH h i) := by
 unfold atH
 rw [List.getD_eq_getElem?_getD, List.getElem?_eq_getElem hi]
 rfl
theorem entB_by (x : En) : By (entB x) := pack_by (fun p hp => by
 rcases List.mem_cons.1 hp with rfl | hp
 ·exact bytesL_by _
 ·obtain ⟨d, _, hd⟩ := List.mem_flatMap.1 hp
  simp only [List.mem_cons, List.not_mem_nil, or_false] at hd
  rcases hd with rfl | rfl
  ·exact num_by _
  ·exact num_by _)
theorem celB_by (x : Ce) : By (celB x) := pack_by (fun p hp => by
 simp only [List.mem_cons, List.not_mem_nil, or_false] at hp
 rcases hp with rfl | rfl
 ·exact bytesL_by _
 ·exact num_by _)
theorem accB_by (x : Ac) : By (accB x) := pack_by (fun p hp => by
 rcases List.mem_cons.1 hp with rfl | hp
 ·exact bytesL_by _
 ·obtain ⟨d, _, rfl⟩ := List.mem_map.1 hp
  exact num_by _)
theorem notB_by (x : Nt) : By (notB x) := pack_by (fun p hp => by
 simp only [List.mem_cons, List.not_mem_nil, or_false] at hp
 rcases hp with rfl | rfl | rfl | rfl
 ·exact bytesL_by _
 ·exact num_by _
 ·exact num_by _
 ·exact bytesL_by _)
theorem one_tx {w : World} {x : Tx} (h : TU w (hdV x.1) x.2) : TUs w [x] := fun y hy => by
 rw [List.mem_singleton] at hy
 subst hy
 exact h
set_option maxRecDepth 2000 in
set_option maxHeartbeats 8000000 in
theorem accountB13 (sk : ByteArray) (h : List Int) (w : World) (hm : mayAc (sk, h) = true) : Calls Tryz.prog 85 #[.agg #[.string sk, .int .i64 (atH h 0), .int .i64 (atH h 1), .int .i64 (atH h 2), .int .i64 (atH h 3), .int .i64 (atH h 4)]] w fun e w' => ∃ v, e = .returned v ∧ Own w.heap.size w' v (accB (sk, h)) ∧ Below w.heap.size w w' := by
 have HTX := hide (accB_texts hm)
 have HNU := hide (mayAc_nums hm)
 have h5 : h.length = 5 := (mayAc_iff.1 hm).2.1
 have HL5 := hide h5
 have hsk : sk.size ≤ maxLen := by have q := (mayAc_iff.1 hm).1; unfold mayK at q; rw [decide_eq_true_iff] at q; unfold maxLen; simp only at q; omega
 clear hm h5
 have hc1 : ∀ W, _ := fun W => conv13 W sk
 have HU := hide (bel1 w (.cells #[.string sk, .int .i64 (atH h 0), .int .i64 (atH h 1), .int .i64 (atH h 2), .int .i64 (atH h 3), .int .i64 (atH h 4)] 134))
 have z0 := cell_new w #[.string sk, .int .i64 (atH h 0), .int .i64 (atH h 1), .int .i64 (atH h 2), .int .i64 (atH h 3), .int .i64 (atH h 4)] 134 _ rfl 0 _ rfl
 have Z1 := hide (cell_new w #[.string sk, .int .i64 (atH h 0), .int .i64 (atH h 1), .int .i64 (atH h 2), .int .i64 (atH h 3), .int .i64 (atH h 4)] 134 _ rfl 1 _ rfl)
 have Z2 := hide (cell_new w #[.string sk, .int .i64 (atH h 0), .int .i64 (atH h 1), .int .i64 (atH h 2), .int .i64 (atH h 3), .int .i64 (atH h 4)] 134 _ rfl 2 _ rfl)
 have Z3 := hide (cell_new w #[.string sk, .int .i64 (atH h 0), .int .i64 (atH h 1), .int .i64 (atH h 2), .int .i64 (atH h 3), .int .i64 (atH h 4)] 134 _ rfl 3 _ rfl)
 have Z4 := hide (cell_new w #[.string sk, .int .i64 (atH h 0), .int .i64 (atH h 1), .int .i64 (atH h 2), .int .i64 (atH h 3), .int .i64 (atH h 4)] 134 _ rfl 4 _ rfl)
 have Z5 := hide (cell_new w #[.string sk, .int .i64 (atH h 0), .int .i64 (atH h 1), .int .i64 (atH h 2), .int .i64 (atH h 3), .int .i64 (atH h 4)] 134 _ rfl 5 _ rfl)
 go_enter Tryz.func85, Tryz.ntmps85
 go_upto_region 1 with fail
 generalize hu : w.alloc (.cells #[.string sk, .int .i64 (atH h 0), .int .i64 (atH h 1), .int .i64 (atH h 2), .int .i64 (atH h 3), .int .i64 (atH h 4)] 134) = u at *
 clear hu
 have HTU := hide (TU.made (Below.refl _ u) sk hsk)
 have HBc := hide (conv_bel u 5 sk)
 go_upto_region 2 with fail
 clear z0 hc1
 have HV0 := hide (OV.lit _ w.heap.size (Nat.le_trans HU.out.size HBc.out.size) (some ⟨u.heap.size, 0, none⟩, sk.size, grownCap u sk.size 0 5) (bytesL sk) HTU.out)
 have BQ := hide (bel1 (bytesWorld u 5 sk) (.cells #[.slice (some ⟨u.heap.size, 0, none⟩) sk.size (grownCap u sk.size 0 5)] 59))
 have HB0 := hide (bel_next (bel_next HU.out HBc.out) BQ.out)
 have z1 := bcell BQ.out (bcell HBc.out Z1.out)
 have z2 := bcell BQ.out (bcell HBc.out Z2.out)
 have z3 := bcell BQ.out (bcell HBc.out Z3.out)
 have z4 := bcell BQ.out (bcell HBc.out Z4.out)
 have z5 := bcell BQ.out (bcell HBc.out Z5.out)
 simp only [hdV] at HV0
 clear HTU HBc HU BQ Z1 Z2 Z3 Z4 Z5
 generalize (bytesWorld u 5 sk).heap.size = gv at *
 generalize (bytesWorld u 5 sk).alloc (.cells #[.slice (some ⟨u.heap.size, 0, none⟩) sk.size (grownCap u sk.size 0 5)] 59) = u2 at *
 go_wp2
 clear z1 z2 z3 z4 z5
 go_loopw [3, 12] (fun V v wr => ∃ i : Nat, i ≤ 5 ∧ v = .int .i64 i ∧ Hid (OV w.heap.size wr V (bytesL sk :: (h.take i).map (fun n => num (zzN n)))) ∧ Hid (Below w.heap.size w wr)) (fun _ v _ => 5 - (intOf v).toNat)
 case atStart => exact ⟨0, by omega, rfl, (show OV _ _ _ _ from HV0.out), HB0⟩
 case round =>
  clear HV0 HB0
  obtain ⟨i, hi, rfl, HV, HB⟩ := hrel
  by_cases hlt : i < 5
  ·have hx := atH_get (h := h) (i := i) (by rw [HL5.out]; exact hlt)
   have hbd := HNU.out _ (List.mem_of_getElem? hx)
   have hix : ∀ W, _ := fun W => ix5_at h hlt W
   have hi0 : (0 : Int) ≤ (i : Int) := by omega
   have hi1 : (i : Int) < 5 := by omega
   have HNX : Hid ((bytesL sk :: (h.take (i + 1)).map (fun n => num (zzN n))) = (bytesL sk :: (h.take i).map (fun n => num (zzN n))) ++ [num (zzN (atH h i))]) := by
    unfold Hid
    rw [take_snocL hx, List.map_append]
    simp
   have HFL : Hid ((bytesL sk :: (h.take i).map (fun n => num (zzN n))).length ≤ 900) := by
    unfold Hid
    rw [List.length_cons, List.length_map, List.length_take]
    omega
   clear hx
   generalize atH h i = xi at *
   go_wp2_with (first
    | (go_at_call 144; refine (signed13 xi _ hbd).mono ?_; rintro e w1 ⟨v9, rfl, ho9, hb⟩; obtain ⟨p1, c1, hv9, ht9⟩ := own_tx ho9 (num_by _); subst hv9; have T1 := hide ht9; replace HV := hide (HV.out.below hb); replace HB := hide (bel_next HB.out hb); clear ht9 ho9 hb)
    | (at_builtin; refine Stop.at ?_))
   unfold Stop
   have hb := bel1 w1 (.cells #[.slice p1 (num (zzN xi)).length c1] 59)
   have HB3 := hide (bel_next HB.out hb)
   refine append_ov rfl _ _ rfl w.heap.size _ _ rfl (HV.out.below hb) w1.heap.size 1 1 [((p1, (num (zzN xi)).length, c1), num (zzN xi))] rfl (tx_row w1 _ _ rfl 1 rfl (by omega)) (one_tx (T1.out.below hb)) (by have h9 := HFL.out; omega) HB3.out.size ?_
   intro v5 w5 ho5 hbel5
   have O5 := hide ho5
   have HB5 := hide (hbel5 _ HB3.out)
   clear ho5 hbel5 hb HB3 HV HB T1
   go_wp2
   go_roundw
   case rel => exact ⟨i + 1, by omega, by go_num, (show Hid _ from by unfold Hid; rw [HNX.out]; exact O5.out), HB5⟩
   case measure => simp [intOf]; omega
  ·obtain rfl : i = 5 := by omega
   have h9 := HV.out
   rw [List.take_of_length_le (by rw [HL5.out]; exact Nat.le_refl _)] at h9
   obtain ⟨p9, c9, hv9, hpc, _⟩ := h9.open
   subst hv9
   have HPC := hide hpc
   clear hpc h9 HV
   have HLL : Hid (∀ t ∈ bytesL sk :: h.map (fun n => num (zzN n)), t.length ≤ 100000) := fun t ht => by have h9 := HTX.out.1 t ht; omega
   have hNN : (bytesL sk :: h.map (fun n => num (zzN n))).length ≤ 1000 := by have h9 := HTX.out.2; omega
   have HRS : Hid (pack (bytesL sk :: h.map (fun n => num (zzN n))) = accB (sk, h)) := rfl
   generalize (bytesL sk :: h.map (fun n => num (zzN n))) = TS at *
   generalize TS.length = nL at *
   clear HTX HNU HL5
   go_wp2_with (go_at_call 88; refine (pack_any p9 _ c9 _ _ HPC.out hNN HLL.out).mono ?_; rintro e w9 ⟨v, rfl, ho, hb⟩; have HO := hide (ho.mono HB.out.size); replace HB := hide (bel_next HB.out hb); clear ho hb)
   go_ret
   exact ⟨_, rfl, (by rw [← HRS.out]; exact HO.out), HB.out⟩
set_option maxRecDepth 2000 in
set_option maxHeartbeats 8000000 in
theorem packsE (V0 : Value) (ts : List (List Int)) (pt : Option Addr) (nt ct : Nat) (ls : List (List En)) (w0 w : World) (hB : Below w0.heap.size w0 w) (hV : OV w0.heap.size w V0 ts) (hL : LS NSS w0 pt nt ls) (hn : nt ≤ 100) (ht : ts.length ≤ 400) (hok : ∀ s ∈ ls, s.length ≤ 900 ∧ ∀ x ∈ s, x.1.size ≤ 32 ∧ (∀ d ∈ x.2.1, mayD d = true) ∧ x.2.1.length ≤ 400) : Calls Tryz.prog 80 #[V0, .slice pt nt ct, .func (.func 81) #[] #[]] w fun e w' => ∃ v, e = .returned v ∧ OV w0.heap.size w' v (ts ++ ls.map (fun s => pack (s.map entB))) ∧ Below w0.heap.size w0 w' := by
 have HL := hide hL
 have HLL := hide hL.len
 have HOK := hide hok
 have HV0 := hide hV
 have HB0 := hide hB
 clear hV hL hok hB
 go_enter Tryz.func80, Tryz.ntmps80
 go_wp2
 go_loopw [0, 14] (fun V v wr => ∃ i : Nat, i ≤ nt ∧ v = .int .i64 i ∧ Hid (OV w0.heap.size wr V (ts ++ (ls.take i).map (fun s => pack (s.map entB)))) ∧ Hid (Below w0.heap.size w0 wr)) (fun _ v _ => nt - (intOf v).toNat)
 case atStart => exact ⟨0, by omega, rfl, (show OV _ _ _ _ from by simpa using HV0.out), HB0⟩
 case round =>
  clear HV0 HB0
  obtain ⟨i, hi, rfl, HV, HB⟩ := hrel
  by_cases hlt : i < nt
  ·obtain ⟨bt, ot, rfl⟩ := LS.addr HL.out (by omega)
   obtain ⟨px, nx, cx, s, hs, x0, hX, hcx⟩ := LS.at (LS.below kept_ent HL.out HB.out) i hlt
   have hi0 : (0 : Int) ≤ (i : Int) := by omega
   have hi1 : (i : Int) < (nt : Int) := by omega
   have HSK := hide (HOK.out s (List.mem_of_getElem? hs))
   have HNX : Hid (ts ++ (ls.take (i + 1)).map (fun s => pack (s.map entB)) = (ts ++ (ls.take i).map (fun s => pack (s.map entB))) ++ [pack (s.map entB)]) := by
    unfold Hid
    rw [take_snocL hs, List.map_append]
    simp
   have HFL : Hid ((ts ++ (ls.take i).map (fun s => pack (s.map entB))).length ≤ 900) := by
    unfold Hid
    rw [List.length_append, List.length_map, List.length_take]
    omega
   have HX := hide hX
   have HSL := hide ((kept_ent).len hX)
   have hnx : nx ≤ 900 := by have h9 := HSL.out; have h8 := HSK.out.1; omega
   clear hs hX hcx
   go_wp2
   clear x0
   generalize hww : wr = wA at *
   clear hww
   go_loopw [9, 20] (fun K v wr => ∃ j : Nat, j ≤ nx ∧ v = .int .i64 j ∧ Hid (OV wA.heap.size wr K ((s.take j).map entB)) ∧ Hid (Below wA.heap.size wA wr)) (fun _ v _ => nx - (intOf v).toNat)
   case atStart => exact ⟨0, by omega, rfl, (show OV _ _ _ _ from OV.nil _ _), Below.refl _ _⟩
   case round =>
    obtain ⟨j, hj, rfl, HK, HC⟩ := hrel
    by_cases hlj : j < nx
    ·obtain ⟨b, off, rfl⟩ := HX.out.addr (by omega)
     obtain ⟨k, pl, nl, cl, pd, nd, cd, l, m, hx, z0, z1, z2, hD, _, _, _⟩ := (HX.out.below HC.out).at j hlj
     have hj0 : (0 : Int) ≤ (j : Int) := by omega
     have hj1 : (j : Int) < (nx : Int) := by omega
     have HPX := HSK.out.2 _ (List.mem_of_getElem? hx)
     have hks : k.size ≤ 32 := HPX.1
     have HDD := hide HPX.2.1
     have hnl : nl ≤ 400 := by have h9 := HPX.2.2; have h8 := hD.1; simp only at h9; omega
     have HD := hide hD
     clear hD
     have HNK : Hid ((s.take (j + 1)).map entB = (s.take j).map entB ++ [entB (k, l, m)]) := by
      unfold Hid
      rw [take_snocL hx, List.map_append]
      rfl
     have HFK : Hid (((s.take j).map entB).length ≤ 900) := by
      unfold Hid
      rw [List.length_map, List.length_take]
      have h9 := HSL.out
      have h8 := HSK.out.1
      omega
     clear hx HPX
     go_upto_region 8 with fail
     have HXB : Hid (BX (wr.alloc (.cells #[.string k, .slice pl nl cl, .slice pd nd cd] 125)) wr.heap.size #[.string k, .slice pl nl cl, .slice pd nd cd] 125) := BX.new wr _ rfl _ _
     have BQ := hide (bel1 wr (.cells #[.string k, .slice pl nl cl, .slice pd nd cd] 125))
     replace HK := hide (HK.out.below BQ.out)
     replace HC := hide (bel_next HC.out BQ.out)
     replace HD := hide (HD.out.below BQ.out)
     clear z0 z1 z2 BQ
     generalize hgX : wr.heap.size = gX at *
     clear hgX
     generalize wr.alloc (.cells #[.string k, .slice pl nl cl, .slice pd nd cd] 125) = wx at *
     have y0 := HXB.out.cell 0 _ rfl; have y1 := HXB.out.cell 1 _ rfl; have y2 := HXB.out.cell 2 _ rfl
     go_wp2_with (first
      | (go_at_call 81; refine (entryB13 k pl nl cl pd nd cd l m _ hks HD.out hnl HDD.out).mono ?_; rintro e w1 ⟨v9, rfl, ho9, hb⟩; obtain ⟨p1, c1, hv9, ht9⟩ := own_tx ho9 (entB_by _); subst hv9; have T1 := hide ht9; replace HK := hide (HK.out.below hb); replace HC := hide (bel_next HC.out hb); clear ht9 ho9 hb)
      | (at_builtin; refine Stop.at ?_))
     unfold Stop
     have hb := bel1 w1 (.cells #[.slice p1 (entB (k, l, m)).length c1] 59)
     have HC3 := hide (bel_next HC.out hb)
     refine append_ov rfl _ _ rfl wA.heap.size _ _ rfl (HK.out.below hb) w1.heap.size 1 1 [((p1, (entB (k, l, m)).length, c1), entB (k, l, m))] rfl (tx_row w1 _ _ rfl 1 rfl (by omega)) (one_tx (T1.out.below hb)) (by have h9 := HFK.out; omega) HC3.out.size ?_
     intro v5 w5 ho5 hbel5
     have O5 := hide ho5
     have HC5 := hide (hbel5 _ HC3.out)
     clear ho5 hbel5 hb HC3 HK HC T1
     go_wp2
     go_roundw
     case rel => exact ⟨j + 1, by omega, by go_num, (show Hid _ from by unfold Hid; rw [HNK.out]; exact O5.out), HC5⟩
     case measure => simp [intOf]; omega
    ·obtain rfl : j = nx := by omega
     have h9 := HK.out
     rw [List.take_of_length_le (by rw [HSL.out]; exact Nat.le_refl _)] at h9
     obtain ⟨p9, c9, hv9, hpc, _⟩ := h9.open
     subst hv9
     have HPC := hide hpc
     clear hpc h9 HK
     replace HV := hide (HV.out.below HC.out)
     replace HB := hide (bel_next HB.out HC.out)
     clear HC
     have HTT : Hid (∀ t ∈ s.map entB, t.length ≤ 100000) := fun t ht => by
      obtain ⟨x, hx, rfl⟩ := List.mem_map.1 ht
      exact Nat.le_trans (entB_len (L := 400) (x := (x.1, x.2.1, [])) ⟨(HSK.out.2 x hx).1, (HSK.out.2 x hx).2.1, (HSK.out.2 x hx).2.2, rfl⟩) (by decide)
     have hNN : (s.map entB).length ≤ 1000 := by rw [List.length_map]; have h9 := HSK.out.1; omega
     have HBY : Hid (By (pack (s.map entB))) := pack_by (fun p hp => by
      obtain ⟨x, _, rfl⟩ := List.mem_map.1 hp
      exact entB_by x)
     clear HSK HX HSL
     generalize s.map entB = PS at *
     generalize hnL : PS.length = nL at *
     go_wp2_with (first
      | (go_at_call 88; refine (pack_any p9 _ c9 _ _ HPC.out hNN HTT.out).mono ?_; rintro e w1 ⟨v9, rfl, ho9, hb⟩; obtain ⟨p1, c1, hv9, ht9⟩ := own_tx ho9 HBY.out; subst hv9; have T1 := hide ht9; replace HV := hide (HV.out.below hb); replace HB := hide (bel_next HB.out hb); clear ht9 ho9 hb)
      | (at_builtin; refine Stop.at ?_))
     unfold Stop
     have hb := bel1 w1 (.cells #[.slice p1 (pack PS).length c1] 59)
     have HB3 := hide (bel_next HB.out hb)
     refine append_ov rfl _ _ rfl w0.heap.size _ _ rfl (HV.out.below hb) w1.heap.size 1 1 [((p1, (pack PS).length, c1), pack PS)] rfl (tx_row w1 _ _ rfl 1 rfl (by omega)) (one_tx (T1.out.below hb)) (by have h9 := HFL.out; omega) HB3.out.size ?_
     intro v5 w5 ho5 hbel5
     have O5 := hide ho5
     have HB5 := hide (hbel5 _ HB3.out)
     clear ho5 hbel5 hb HB3 HV HB T1
     go_wp2
     go_roundw
     case rel => exact ⟨i + 1, by omega, by go_num, (show Hid _ from by unfold Hid; rw [HNX.out]; exact O5.out), HB5⟩
     case measure => simp [intOf]; omega
  ·obtain rfl : i = nt := by omega
   have h9 := HV.out
   rw [List.take_of_length_le (by rw [HLL.out]; exact Nat.le_refl _)] at h9
   have H9 := hide h9
   clear h9 HV
   go_wp2
   go_ret
   exact ⟨_, rfl, H9.out, HB.out⟩
set_option maxRecDepth 2000 in
set_option maxHeartbeats 8000000 in
theorem packsC (V0 : Value) (ts : List (List Int)) (pt : Option Addr) (nt ct : Nat) (ls : List (List Ce)) (w0 w : World) (hB : Below w0.heap.size w0 w) (hV : OV w0.heap.size w V0 ts) (hL : LS TS w0 pt nt ls) (hn : nt ≤ 100) (ht : ts.length ≤ 400) (hok : ∀ s ∈ ls, s.length ≤ 900 ∧ ∀ x ∈ s, mayCe x = true) : Calls Tryz.prog 82 #[V0, .slice pt nt ct, .func (.func 83) #[] #[]] w fun e w' => ∃ v, e = .returned v ∧ OV w0.heap.size w' v (ts ++ ls.map (fun s => pack (s.map celB))) ∧ Below w0.heap.size w0 w' := by
 have HL := hide hL
 have HLL := hide hL.len
 have HOK := hide hok
 have HV0 := hide hV
 have HB0 := hide hB
 clear hV hL hok hB
 go_enter Tryz.func82, Tryz.ntmps82
 go_wp2
 go_loopw [0, 14] (fun V v wr => ∃ i : Nat, i ≤ nt ∧ v = .int .i64 i ∧ Hid (OV w0.heap.size wr V (ts ++ (ls.take i).map (fun s => pack (s.map celB)))) ∧ Hid (Below w0.heap.size w0 wr)) (fun _ v _ => nt - (intOf v).toNat)
 case atStart => exact ⟨0, by omega, rfl, (show OV _ _ _ _ from by simpa using HV0.out), HB0⟩
 case round =>
  clear HV0 HB0
  obtain ⟨i, hi, rfl, HV, HB⟩ := hrel
  by_cases hlt : i < nt
  ·obtain ⟨bt, ot, rfl⟩ := LS.addr HL.out (by omega)
   obtain ⟨px, nx, cx, s, hs, x0, hX, hcx⟩ := LS.at (LS.below kept_cel HL.out HB.out) i hlt
   have hi0 : (0 : Int) ≤ (i : Int) := by omega
   have hi1 : (i : Int) < (nt : Int) := by omega
   have HSK := hide (HOK.out s (List.mem_of_getElem? hs))
   have HNX : Hid (ts ++ (ls.take (i + 1)).map (fun s => pack (s.map celB)) = (ts ++ (ls.take i).map (fun s => pack (s.map celB))) ++ [pack (s.map celB)]) := by
    unfold Hid
    rw [take_snocL hs, List.map_append]
    simp
   have HFL : Hid ((ts ++ (ls.take i).map (fun s => pack (s.map celB))).length ≤ 900) := by
    unfold Hid
    rw [List.length_append, List.length_map, List.length_take]
    omega
   have HX := hide hX
   have HSL := hide ((kept_cel).len hX)
   have hnx : nx ≤ 900 := by have h9 := HSL.out; have h8 := HSK.out.1; omega
   clear hs hX hcx
   go_wp2
   clear x0
   generalize hww : wr = wA at *
   clear hww
   go_loopw [9, 20] (fun K v wr => ∃ j : Nat, j ≤ nx ∧ v = .int .i64 j ∧ Hid (OV wA.heap.size wr K ((s.take j).map celB)) ∧ Hid (Below wA.heap.size wA wr)) (fun _ v _ => nx - (intOf v).toNat)
   case atStart => exact ⟨0, by omega, rfl, (show OV _ _ _ _ from OV.nil _ _), Below.refl _ _⟩
   case round =>
    obtain ⟨j, hj, rfl, HK, HC⟩ := hrel
    by_cases hlj : j < nx
    ·obtain ⟨b, off, rfl⟩ := HX.out.addr (by omega)
     obtain ⟨k, m, hx, z0, z1⟩ := (HX.out.below HC.out).at j hlj
     have hj0 : (0 : Int) ≤ (j : Int) := by omega
     have hj1 : (j : Int) < (nx : Int) := by omega
     have HPX := HSK.out.2 _ (List.mem_of_getElem? hx)
     have hks : k.size ≤ 65536 := by have q := (mayCe_iff.1 HPX).1; unfold mayK at q; rw [decide_eq_true_iff] at q; simp only at q; omega
     have hbd : -top40 ≤ m ∧ m ≤ top40 := (mayCe_iff.1 HPX).2.2
     have HNK : Hid ((s.take (j + 1)).map celB = (s.take j).map celB ++ [celB (k, m)]) := by
      unfold Hid
      rw [take_snocL hx, List.map_append]
      rfl
     have HFK : Hid (((s.take j).map celB).length ≤ 900) := by
      unfold Hid
      rw [List.length_map, List.length_take]
      have h9 := HSL.out
      have h8 := HSK.out.1
      omega
     clear hx HPX
     go_upto_region 8 with fail
     have HXB : Hid (BX (wr.alloc (.cells #[.string k, .int .i64 m] 129)) wr.heap.size #[.string k, .int .i64 m] 129) := BX.new wr _ rfl _ _
     have BQ := hide (bel1 wr (.cells #[.string k, .int .i64 m] 129))
     replace HK := hide (HK.out.below BQ.out)
     replace HC := hide (bel_next HC.out BQ.out)
     skip
     clear z0 z1 BQ
     generalize hgX : wr.heap.size = gX at *
     clear hgX
     generalize wr.alloc (.cells #[.string k, .int .i64 m] 129) = wx at *
     have y0 := HXB.out.cell 0 _ rfl; have y1 := HXB.out.cell 1 _ rfl
     go_wp2_with (first
      | (go_at_call 83; refine (cellB13 k m _ hks hbd).mono ?_; rintro e w1 ⟨v9, rfl, ho9, hb⟩; obtain ⟨p1, c1, hv9, ht9⟩ := own_tx ho9 (celB_by _); subst hv9; have T1 := hide ht9; replace HK := hide (HK.out.below hb); replace HC := hide (bel_next HC.out hb); clear ht9 ho9 hb)
      | (at_builtin; refine Stop.at ?_))
     unfold Stop
     have hb := bel1 w1 (.cells #[.slice p1 (celB (k, m)).length c1] 59)
     have HC3 := hide (bel_next HC.out hb)
     refine append_ov rfl _ _ rfl wA.heap.size _ _ rfl (HK.out.below hb) w1.heap.size 1 1 [((p1, (celB (k, m)).length, c1), celB (k, m))] rfl (tx_row w1 _ _ rfl 1 rfl (by omega)) (one_tx (T1.out.below hb)) (by have h9 := HFK.out; omega) HC3.out.size ?_
     intro v5 w5 ho5 hbel5
     have O5 := hide ho5
     have HC5 := hide (hbel5 _ HC3.out)
     clear ho5 hbel5 hb HC3 HK HC T1
     go_wp2
     go_roundw
     case rel => exact ⟨j + 1, by omega, by go_num, (show Hid _ from by unfold Hid; rw [HNK.out]; exact O5.out), HC5⟩
     case measure => simp [intOf]; omega
    ·obtain rfl : j = nx := by omega
     have h9 := HK.out
     rw [List.take_of_length_le (by rw [HSL.out]; exact Nat.le_refl _)] at h9
     obtain ⟨p9, c9, hv9, hpc, _⟩ := h9.open
     subst hv9
     have HPC := hide hpc
     clear hpc h9 HK
     replace HV := hide (HV.out.below HC.out)
     replace HB := hide (bel_next HB.out HC.out)
     clear HC
     have HTT : Hid (∀ t ∈ s.map celB, t.length ≤ 100000) := fun t ht => by
      obtain ⟨x, hx, rfl⟩ := List.mem_map.1 ht
      exact Nat.le_trans (celB_len (HSK.out.2 x hx)) (by decide)
     have hNN : (s.map celB).length ≤ 1000 := by rw [List.length_map]; have h9 := HSK.out.1; omega
     have HBY : Hid (By (pack (s.map celB))) := pack_by (fun p hp => by
      obtain ⟨x, _, rfl⟩ := List.mem_map.1 hp
      exact celB_by x)
     clear HSK HX HSL
     generalize s.map celB = PS at *
     generalize hnL : PS.length = nL at *
     go_wp2_with (first
      | (go_at_call 88; refine (pack_any p9 _ c9 _ _ HPC.out hNN HTT.out).mono ?_; rintro e w1 ⟨v9, rfl, ho9, hb⟩; obtain ⟨p1, c1, hv9, ht9⟩ := own_tx ho9 HBY.out; subst hv9; have T1 := hide ht9; replace HV := hide (HV.out.below hb); replace HB := hide (bel_next HB.out hb); clear ht9 ho9 hb)
      | (at_builtin; refine Stop.at ?_))
     unfold Stop
     have hb := bel1 w1 (.cells #[.slice p1 (pack PS).length c1] 59)
     have HB3 := hide (bel_next HB.out hb)
     refine append_ov rfl _ _ rfl w0.heap.size _ _ rfl (HV.out.below hb) w1.heap.size 1 1 [((p1, (pack PS).length, c1), pack PS)] rfl (tx_row w1 _ _ rfl 1 rfl (by omega)) (one_tx (T1.out.below hb)) (by have h9 := HFL.out; omega) HB3.out.size ?_
     intro v5 w5 ho5 hbel5
     have O5 := hide ho5
     have HB5 := hide (hbel5 _ HB3.out)
     clear ho5 hbel5 hb HB3 HV HB T1
     go_wp2
     go_roundw
     case rel => exact ⟨i + 1, by omega, by go_num, (show Hid _ from by unfold Hid; rw [HNX.out]; exact O5.out), HB5⟩
     case measure => simp [intOf]; omega
  ·obtain rfl : i = nt := by omega
   have h9 := HV.out
   rw [List.take_of_length_le (by rw [HLL.out]; exact Nat.le_refl _)] at h9
   have H9 := hide h9
   clear h9 HV
   go_wp2
   go_ret
   exact ⟨_, rfl, H9.out, HB.out⟩
set_option maxRecDepth 2000 in
set_option maxHeartbeats 8000000 in
theorem packsA (V0 : Value) (ts : List (List Int)) (pt : Option Addr) (nt ct : Nat) (ls : List (List Ac)) (w0 w : World) (hB : Below w0.heap.size w0 w) (hV : OV w0.heap.size w V0 ts) (hL : LS AC w0 pt nt ls) (hn : nt ≤ 100) (ht : ts.length ≤ 400) (hok : ∀ s ∈ ls, s.length ≤ 900 ∧ ∀ x ∈ s, mayAc x = true) : Calls Tryz.prog 84 #[V0, .slice pt nt ct, .func (.func 85) #[] #[]] w fun e w' => ∃ v, e = .returned v ∧ OV w0.heap.size w' v (ts ++ ls.map (fun s => pack (s.map accB))) ∧ Below w0.heap.size w0 w' := by
 have HL := hide hL
 have HLL := hide hL.len
 have HOK := hide hok
 have HV0 := hide hV
 have HB0 := hide hB
 clear hV hL hok hB
 go_enter Tryz.func84, Tryz.ntmps84
 go_wp2
 go_loopw [0, 14] (fun V v wr => ∃ i : Nat, i ≤ nt ∧ v = .int .i64 i ∧ Hid (OV w0.heap.size wr V (ts ++ (ls.take i).map (fun s => pack (s.map accB)))) ∧ Hid (Below w0.heap.size w0 wr)) (fun _ v _ => nt - (intOf v).toNat)
 case atStart => exact ⟨0, by omega, rfl, (show OV _ _ _ _ from by simpa using HV0.out), HB0⟩
 case round =>
  clear HV0 HB0
  obtain ⟨i, hi, rfl, HV, HB⟩ := hrel
  by_cases hlt : i < nt
  ·obtain ⟨bt, ot, rfl⟩ := LS.addr HL.out (by omega)
   obtain ⟨px, nx, cx, s, hs, x0, hX, hcx⟩ := LS.at (LS.below kept_acc HL.out HB.out) i hlt
   have hi0 : (0 : Int) ≤ (i : Int) := by omega
   have hi1 : (i : Int) < (nt : Int) := by omega
   have HSK := hide (HOK.out s (List.mem_of_getElem? hs))
   have HNX : Hid (ts ++ (ls.take (i + 1)).map (fun s => pack (s.map accB)) = (ts ++ (ls.take i).map (fun s => pack (s.map accB))) ++ [pack (s.map accB)]) := by
    unfold Hid
    rw [take_snocL hs, List.map_append]
    simp
   have HFL : Hid ((ts ++ (ls.take i).map (fun s => pack (s.map accB))).length ≤ 900) := by
    unfold Hid
    rw [List.length_append, List.length_map, List.length_take]
    omega
   have HX := hide hX
   have HSL := hide ((kept_acc).len hX)
   have hnx : nx ≤ 900 := by have h9 := HSL.out; have h8 := HSK.out.1; omega
   clear hs hX hcx
   go_wp2
   clear x0
   generalize hww : wr = wA at *
   clear hww
   go_loopw [9, 20] (fun K v wr => ∃ j : Nat, j ≤ nx ∧ v = .int .i64 j ∧ Hid (OV wA.heap.size wr K ((s.take j).map accB)) ∧ Hid (Below wA.heap.size wA wr)) (fun _ v _ => nx - (intOf v).toNat)
   case atStart => exact ⟨0, by omega, rfl, (show OV _ _ _ _ from OV.nil _ _), Below.refl _ _⟩
   case round =>
    obtain ⟨j, hj, rfl, HK, HC⟩ := hrel
    by_cases hlj : j < nx
    ·obtain ⟨b, off, rfl⟩ := HX.out.addr (by omega)
     obtain ⟨k, g0, g1, g2, g3, g4, hx, z0, z1, z2, z3, z4, z5⟩ := (HX.out.below HC.out).five j hlj
     have hj0 : (0 : Int) ≤ (j : Int) := by omega
     have hj1 : (j : Int) < (nx : Int) := by omega
     have HPX := HSK.out.2 _ (List.mem_of_getElem? hx)
     have HMA := hide HPX
     have HNK : Hid ((s.take (j + 1)).map accB = (s.take j).map accB ++ [accB (k, [g0, g1, g2, g3, g4])]) := by
      unfold Hid
      rw [take_snocL hx, List.map_append]
      rfl
     have HFK : Hid (((s.take j).map accB).length ≤ 900) := by
      unfold Hid
      rw [List.length_map, List.length_take]
      have h9 := HSL.out
      have h8 := HSK.out.1
      omega
     clear hx HPX
     go_upto_region 8 with fail
     have HXB : Hid (BX (wr.alloc (.cells #[.string k, .int .i64 g0, .int .i64 g1, .int .i64 g2, .int .i64 g3, .int .i64 g4] 134)) wr.heap.size #[.string k, .int .i64 g0, .int .i64 g1, .int .i64 g2, .int .i64 g3, .int .i64 g4] 134) := BX.new wr _ rfl _ _
     have BQ := hide (bel1 wr (.cells #[.string k, .int .i64 g0, .int .i64 g1, .int .i64 g2, .int .i64 g3, .int .i64 g4] 134))
     replace HK := hide (HK.out.below BQ.out)
     replace HC := hide (bel_next HC.out BQ.out)
     skip
     clear z0 z1 z2 z3 z4 z5 BQ
     generalize hgX : wr.heap.size = gX at *
     clear hgX
     generalize wr.alloc (.cells #[.string k, .int .i64 g0, .int .i64 g1, .int .i64 g2, .int .i64 g3, .int .i64 g4] 134) = wx at *
     have y0 := HXB.out.cell 0 _ rfl; have y1 := HXB.out.cell 1 _ rfl; have y2 := HXB.out.cell 2 _ rfl; have y3 := HXB.out.cell 3 _ rfl; have y4 := HXB.out.cell 4 _ rfl; have y5 := HXB.out.cell 5 _ rfl
     go_wp2_with (first
      | (go_at_call 85; refine (accountB13 k [g0, g1, g2, g3, g4] _ HMA.out).mono ?_; rintro e w1 ⟨v9, rfl, ho9, hb⟩; obtain ⟨p1, c1, hv9, ht9⟩ := own_tx ho9 (accB_by _); subst hv9; have T1 := hide ht9; replace HK := hide (HK.out.below hb); replace HC := hide (bel_next HC.out hb); clear ht9 ho9 hb)
      | (at_builtin; refine Stop.at ?_))
     unfold Stop
     have hb := bel1 w1 (.cells #[.slice p1 (accB (k, [g0, g1, g2, g3, g4])).length c1] 59)
     have HC3 := hide (bel_next HC.out hb)
     refine append_ov rfl _ _ rfl wA.heap.size _ _ rfl (HK.out.below hb) w1.heap.size 1 1 [((p1, (accB (k, [g0, g1, g2, g3, g4])).length, c1), accB (k, [g0, g1, g2, g3, g4]))] rfl (tx_row w1 _ _ rfl 1 rfl (by omega)) (one_tx (T1.out.below hb)) (by have h9 := HFK.out; omega) HC3.out.size ?_
     intro v5 w5 ho5 hbel5
     have O5 := hide ho5
     have HC5 := hide (hbel5 _ HC3.out)
     clear ho5 hbel5 hb HC3 HK HC T1
     go_wp2
     go_roundw
     case rel => exact ⟨j + 1, by omega, by go_num, (show Hid _ from by unfold Hid; rw [HNK.out]; exact O5.out), HC5⟩
     case measure => simp [intOf]; omega
    ·obtain rfl : j = nx := by omega
     have h9 := HK.out
     rw [List.take_of_length_le (by rw [HSL.out]; exact Nat.le_refl _)] at h9
     obtain ⟨p9, c9, hv9, hpc, _⟩ := h9.open
     subst hv9
     have HPC := hide hpc
     clear hpc h9 HK
     replace HV := hide (HV.out.below HC.out)
     replace HB := hide (bel_next HB.out HC.out)
     clear HC
     have HTT : Hid (∀ t ∈ s.map accB, t.length ≤ 100000) := fun t ht => by
      obtain ⟨x, hx, rfl⟩ := List.mem_map.1 ht
      exact Nat.le_trans (accB_len (HSK.out.2 x hx)) (by decide)
     have hNN : (s.map accB).length ≤ 1000 := by rw [List.length_map]; have h9 := HSK.out.1; omega
     have HBY : Hid (By (pack (s.map accB))) := pack_by (fun p hp => by
      obtain ⟨x, _, rfl⟩ := List.mem_map.1 hp
      exact accB_by x)
     clear HSK HX HSL
     generalize s.map accB = PS at *
     generalize hnL : PS.length = nL at *
     go_wp2_with (first
      | (go_at_call 88; refine (pack_any p9 _ c9 _ _ HPC.out hNN HTT.out).mono ?_; rintro e w1 ⟨v9, rfl, ho9, hb⟩; obtain ⟨p1, c1, hv9, ht9⟩ := own_tx ho9 HBY.out; subst hv9; have T1 := hide ht9; replace HV := hide (HV.out.below hb); replace HB := hide (bel_next HB.out hb); clear ht9 ho9 hb)
      | (at_builtin; refine Stop.at ?_))
     unfold Stop
     have hb := bel1 w1 (.cells #[.slice p1 (pack PS).length c1] 59)
     have HB3 := hide (bel_next HB.out hb)
     refine append_ov rfl _ _ rfl w0.heap.size _ _ rfl (HV.out.below hb) w1.heap.size 1 1 [((p1, (pack PS).length, c1), pack PS)] rfl (tx_row w1 _ _ rfl 1 rfl (by omega)) (one_tx (T1.out.below hb)) (by have h9 := HFL.out; omega) HB3.out.size ?_
     intro v5 w5 ho5 hbel5
     have O5 := hide ho5
     have HB5 := hide (hbel5 _ HB3.out)
     clear ho5 hbel5 hb HB3 HV HB T1
     go_wp2
     go_roundw
     case rel => exact ⟨i + 1, by omega, by go_num, (show Hid _ from by unfold Hid; rw [HNX.out]; exact O5.out), HB5⟩
     case measure => simp [intOf]; omega
  ·obtain rfl : i = nt := by omega
   have h9 := HV.out
   rw [List.take_of_length_le (by rw [HLL.out]; exact Nat.le_refl _)] at h9
   have H9 := hide h9
   clear h9 HV
   go_wp2
   go_ret
   exact ⟨_, rfl, H9.out, HB.out⟩
set_option maxRecDepth 2000 in
set_option maxHeartbeats 8000000 in
theorem packsN (V0 : Value) (ts : List (List Int)) (pt : Option Addr) (nt ct : Nat) (ls : List (List Nt)) (w0 w : World) (hB : Below w0.heap.size w0 w) (hV : OV w0.heap.size w V0 ts) (hL : LS NN w0 pt nt ls) (hn : nt ≤ 100) (ht : ts.length ≤ 400) (hok : ∀ s ∈ ls, s.length ≤ 900 ∧ ∀ x ∈ s, mayNt x = true) : Calls Tryz.prog 86 #[V0, .slice pt nt ct, .func (.func 87) #[] #[]] w fun e w' => ∃ v, e = .returned v ∧ OV w0.heap.size w' v (ts ++ ls.map (fun s => pack (s.map notB))) ∧ Below w0.heap.size w0 w' := by
 have HL := hide hL
 have HLL := hide hL.len
 have HOK := hide hok
 have HV0 := hide hV
 have HB0 := hide hB
 clear hV hL hok hB
 go_enter Tryz.func86, Tryz.ntmps86
 go_wp2
 go_loopw [0, 14] (fun V v wr => ∃ i : Nat, i ≤ nt ∧ v = .int .i64 i ∧ Hid (OV w0.heap.size wr V (ts ++ (ls.take i).map (fun s => pack (s.map notB)))) ∧ Hid (Below w0.heap.size w0 wr)) (fun _ v _ => nt - (intOf v).toNat)
 case atStart => exact ⟨0, by omega, rfl, (show OV _ _ _ _ from by simpa using HV0.out), HB0⟩
 case round =>
  clear HV0 HB0
  obtain ⟨i, hi, rfl, HV, HB⟩ := hrel
  by_cases hlt : i < nt
  ·obtain ⟨bt, ot, rfl⟩ := LS.addr HL.out (by omega)
   obtain ⟨px, nx, cx, s, hs, x0, hX, hcx⟩ := LS.at (LS.below kept_not HL.out HB.out) i hlt
   have hi0 : (0 : Int) ≤ (i : Int) := by omega
   have hi1 : (i : Int) < (nt : Int) := by omega
   have HSK := hide (HOK.out s (List.mem_of_getElem? hs))
   have HNX : Hid (ts ++ (ls.take (i + 1)).map (fun s => pack (s.map notB)) = (ts ++ (ls.take i).map (fun s => pack (s.map notB))) ++ [pack (s.map notB)]) := by
    unfold Hid
    rw [take_snocL hs, List.map_append]
    simp
   have HFL : Hid ((ts ++ (ls.take i).map (fun s => pack (s.map notB))).length ≤ 900) := by
    unfold Hid
    rw [List.length_append, List.length_map, List.length_take]
    omega
   have HX := hide hX
   have HSL := hide ((kept_not).len hX)
   have hnx : nx ≤ 900 := by have h9 := HSL.out; have h8 := HSK.out.1; omega
   clear hs hX hcx
   go_wp2
   clear x0
   generalize hww : wr = wA at *
   clear hww
   go_loopw [9, 20] (fun K v wr => ∃ j : Nat, j ≤ nx ∧ v = .int .i64 j ∧ Hid (OV wA.heap.size wr K ((s.take j).map notB)) ∧ Hid (Below wA.heap.size wA wr)) (fun _ v _ => nx - (intOf v).toNat)
   case atStart => exact ⟨0, by omega, rfl, (show OV _ _ _ _ from OV.nil _ _), Below.refl _ _⟩
   case round =>
    obtain ⟨j, hj, rfl, HK, HC⟩ := hrel
    by_cases hlj : j < nx
    ·obtain ⟨b, off, rfl⟩ := HX.out.addr (by omega)
     obtain ⟨k, ta, rp, wd, hx, z0, z1, z2, z3⟩ := (HX.out.below HC.out).at j hlj
     have hj0 : (0 : Int) ≤ (j : Int) := by omega
     have hj1 : (j : Int) < (nx : Int) := by omega
     have HPX := HSK.out.2 _ (List.mem_of_getElem? hx)
     have hks : k.size ≤ 65536 := by have q := (mayNt_iff.1 HPX).1; unfold mayK at q; rw [decide_eq_true_iff] at q; simp only at q; omega
     have hb1 : 0 ≤ ta ∧ ta ≤ 9223372036854775807 := by have q := (mayNt_iff.1 HPX).2.1; simp only at q; omega
     have hb2 : 0 ≤ rp ∧ rp ≤ 9223372036854775807 := by have q := (mayNt_iff.1 HPX).2.2.1; simp only at q; omega
     have hwd : wd.size ≤ 65536 := by have q := (mayNt_iff.1 HPX).2.2.2; simp only at q; omega
     have HNK : Hid ((s.take (j + 1)).map notB = (s.take j).map notB ++ [notB (k, ta, rp, wd)]) := by
      unfold Hid
      rw [take_snocL hx, List.map_append]
      rfl
     have HFK : Hid (((s.take j).map notB).length ≤ 900) := by
      unfold Hid
      rw [List.length_map, List.length_take]
      have h9 := HSL.out
      have h8 := HSK.out.1
      omega
     clear hx HPX
     go_upto_region 8 with fail
     have HXB : Hid (BX (wr.alloc (.cells #[.string k, .int .i64 ta, .int .i64 rp, .string wd] 111)) wr.heap.size #[.string k, .int .i64 ta, .int .i64 rp, .string wd] 111) := BX.new wr _ rfl _ _
     have BQ := hide (bel1 wr (.cells #[.string k, .int .i64 ta, .int .i64 rp, .string wd] 111))
     replace HK := hide (HK.out.below BQ.out)
     replace HC := hide (bel_next HC.out BQ.out)
     skip
     clear z0 z1 z2 z3 BQ
     generalize hgX : wr.heap.size = gX at *
     clear hgX
     generalize wr.alloc (.cells #[.string k, .int .i64 ta, .int .i64 rp, .string wd] 111) = wx at *
     have y0 := HXB.out.cell 0 _ rfl; have y1 := HXB.out.cell 1 _ rfl; have y2 := HXB.out.cell 2 _ rfl; have y3 := HXB.out.cell 3 _ rfl
     go_wp2_with (first
      | (go_at_call 87; refine (noteB13 k ta rp wd _ hks hb1 hb2 hwd).mono ?_; rintro e w1 ⟨v9, rfl, ho9, hb⟩; obtain ⟨p1, c1, hv9, ht9⟩ := own_tx ho9 (notB_by _); subst hv9; have T1 := hide ht9; replace HK := hide (HK.out.below hb); replace HC := hide (bel_next HC.out hb); clear ht9 ho9 hb)
      | (at_builtin; refine Stop.at ?_))
     unfold Stop
     have hb := bel1 w1 (.cells #[.slice p1 (notB (k, ta, rp, wd)).length c1] 59)
     have HC3 := hide (bel_next HC.out hb)
     refine append_ov rfl _ _ rfl wA.heap.size _ _ rfl (HK.out.below hb) w1.heap.size 1 1 [((p1, (notB (k, ta, rp, wd)).length, c1), notB (k, ta, rp, wd))] rfl (tx_row w1 _ _ rfl 1 rfl (by omega)) (one_tx (T1.out.below hb)) (by have h9 := HFK.out; omega) HC3.out.size ?_
     intro v5 w5 ho5 hbel5
     have O5 := hide ho5
     have HC5 := hide (hbel5 _ HC3.out)
     clear ho5 hbel5 hb HC3 HK HC T1
     go_wp2
     go_roundw
     case rel => exact ⟨j + 1, by omega, by go_num, (show Hid _ from by unfold Hid; rw [HNK.out]; exact O5.out), HC5⟩
     case measure => simp [intOf]; omega
    ·obtain rfl : j = nx := by omega
     have h9 := HK.out
     rw [List.take_of_length_le (by rw [HSL.out]; exact Nat.le_refl _)] at h9
     obtain ⟨p9, c9, hv9, hpc, _⟩ := h9.open
     subst hv9
     have HPC := hide hpc
     clear hpc h9 HK
     replace HV := hide (HV.out.below HC.out)
     replace HB := hide (bel_next HB.out HC.out)
     clear HC
     have HTT : Hid (∀ t ∈ s.map notB, t.length ≤ 100000) := fun t ht => by
      obtain ⟨x, hx, rfl⟩ := List.mem_map.1 ht
      exact Nat.le_trans (notB_len (HSK.out.2 x hx)) (by decide)
     have hNN : (s.map notB).length ≤ 1000 := by rw [List.length_map]; have h9 := HSK.out.1; omega
     have HBY : Hid (By (pack (s.map notB))) := pack_by (fun p hp => by
      obtain ⟨x, _, rfl⟩ := List.mem_map.1 hp
      exact notB_by x)
     clear HSK HX HSL
     generalize s.map notB = PS at *
     generalize hnL : PS.length = nL at *
     go_wp2_with (first
      | (go_at_call 88; refine (pack_any p9 _ c9 _ _ HPC.out hNN HTT.out).mono ?_; rintro e w1 ⟨v9, rfl, ho9, hb⟩; obtain ⟨p1, c1, hv9, ht9⟩ := own_tx ho9 HBY.out; subst hv9; have T1 := hide ht9; replace HV := hide (HV.out.below hb); replace HB := hide (bel_next HB.out hb); clear ht9 ho9 hb)
      | (at_builtin; refine Stop.at ?_))
     unfold Stop
     have hb := bel1 w1 (.cells #[.slice p1 (pack PS).length c1] 59)
     have HB3 := hide (bel_next HB.out hb)
     refine append_ov rfl _ _ rfl w0.heap.size _ _ rfl (HV.out.below hb) w1.heap.size 1 1 [((p1, (pack PS).length, c1), pack PS)] rfl (tx_row w1 _ _ rfl 1 rfl (by omega)) (one_tx (T1.out.below hb)) (by have h9 := HFL.out; omega) HB3.out.size ?_
     intro v5 w5 ho5 hbel5
     have O5 := hide ho5
     have HB5 := hide (hbel5 _ HB3.out)
     clear ho5 hbel5 hb HB3 HV HB T1
     go_wp2
     go_roundw
     case rel => exact ⟨i + 1, by omega, by go_num, (show Hid _ from by unfold Hid; rw [HNX.out]; exact O5.out), HB5⟩
     case measure => simp [intOf]; omega
  ·obtain rfl : i = nt := by omega
   have h9 := HV.out
   rw [List.take_of_length_le (by rw [HLL.out]; exact Nat.le_refl _)] at h9
   have H9 := hide h9
   clear h9 HV
   go_wp2
   go_ret
   exact ⟨_, rfl, H9.out, HB.out⟩
end Go.Proofs.YtkbbegbpkndebaaGreat

