/- Texts of this claim, joined: HP8. -/
import Derived.Test.YtkbbegbpkndebaaGreatJ53
/- Texts of the call's own; entryBytes of layer 13 (the program). -/
namespace Go.Proofs.YtkbbegbpkndebaaGreat
open Go.RowKit Go.Lib
set_option linter.unusedVariables false
abbrev Tx := Hd × List Int
def encX (x : Tx) : List Value := encH x.1
theorem encX_len (x : Tx) : (encX x).length = 1 := rfl
theorem encX_one (x : Tx) : ∀ v ∈ encX x, v.oneCell' = true := encH_one x.1
abbrev hdV (x : Hd) : Value := .slice x.1 x.2.1 x.2.2
def TUs (w : World) (xs : List Tx) : Prop := ∀ x ∈ xs, TU w (hdV x.1) x.2
theorem TUs.below {w w' : World} {xs : List Tx} (h : TUs w xs) (hb : Below w.heap.size w w') : TUs w' xs := fun x hx => (h x hx).below hb
theorem Tryz.infoTx : (Tryz.prog.info? 59).map (fun i => (i.zero, i.size, i.bytes)) = some (some (.slice none 0 0), 1, 24) := by kernel_rfl
def OV (N : Nat) (w : World) (v : Value) (ts : List (List Int)) : Prop := ∃ xs, OwnR encX 1 59 N w v xs ∧ TUs w xs ∧ xs.map (·.2) = ts
theorem OV.below {N : Nat} {w w' : World} {v : Value} {ts : List (List Int)} (h : OV N w v ts) (hb : Below w.heap.size w w') : OV N w' v ts := by
 obtain ⟨xs, h1, h2, h3⟩ := h
 exact ⟨xs, h1.below hb, h2.below hb, h3⟩
theorem OV.nil (N : Nat) (w : World) : OV N w (.slice none 0 0) [] := ⟨[], OwnR.nil N w, fun x hx => (by cases hx), rfl⟩
theorem OV.open {N : Nat} {w : World} {v : Value} {ts : List (List Int)} (h : OV N w v ts) : ∃ p c, v = .slice p ts.length c ∧ PC w p ts.length ts ∧ CP p ts.length c := by
 obtain ⟨xs, h1, h2, rfl⟩ := h
 obtain ⟨p, c, rfl, h3, h4⟩ := h1.open encX_len
 rw [List.length_map]
 refine ⟨p, c, rfl, ⟨by rw [List.length_map], h3.2.1, ?_⟩, h4⟩
 rcases h3.2.2 with h0 | ⟨b, off, ha, hc⟩
 ·exact .inl h0
 ·refine .inr ⟨b, off, ha, fun i hi => ?_⟩
  have hx : xs[i]? = some xs[i] := List.getElem?_eq_getElem hi
  obtain ⟨p', n', c', e, q1, q2, _⟩ := h2 _ (List.getElem_mem hi)
  have q := hc i _ hx 0 _ rfl
  rw [Nat.mul_one, Nat.add_zero] at q
  have e2 : Value.slice xs[i].1.1 xs[i].1.2.1 xs[i].1.2.2 = Value.slice p' n' c' := e
  rw [e2] at q
  exact ⟨p', n', c', q, by rw [List.getD_eq_getElem?_getD, List.getElem?_map, hx]; exact q1, q2⟩
theorem tx_row (w : World) (ys : List Tx) (C : Array Value) (hC : C = (ys.flatMap encX).toArray) (n : Nat) (hn : ys.length = n) (hm : n ≤ 1000) : RS encX 1 (w.alloc (.cells C 59)) (some ⟨w.heap.size, 0, none⟩) n ys := RS.new encX_len w _ rfl ys C hC 59 _ n hn (by unfold maxLen; omega)
theorem OV.lit (w : World) (N : Nat) (hN : N ≤ w.heap.size) (x : Hd) (t : List Int) (h : TU w (hdV x) t) : OV N (w.alloc (.cells #[hdV x] 59)) (.slice (some ⟨w.heap.size, 0, none⟩) 1 1) [t] := by
 refine ⟨[(x, t)], ?_, fun y hy => ?_, rfl⟩
 ·have q := World.ownsRow_lit (e := 59) (size := 1) w #[hdV x] 1 hN (by decide) rfl
  exact q
 ·rw [List.mem_singleton] at hy
  subst hy
  exact h.below (bel1 w _)
theorem append_ov {w : World} {ops : Array Oper} {rest : List Oper} {o : Oper} {a : Act} {Q : Exit → Act → World → Prop} (hgd : o.guard = none) (s x : Operand)
  (ho : o.op = .call { callee := .builtin .append, args := #[s, x], argTypes := #[121, 121] })
  (N : Nat) (v : Value) (ts : List (List Int)) (hs : a.eval s = v) (hown : OV N w v ts) (g n c : Nat) (ys : List Tx) (hx : a.eval x = .slice (some ⟨g, 0, none⟩) n c) (hY : RS encX 1 w (some ⟨g, 0, none⟩) n ys) (hT : TUs w ys)
  (hbig : ts.length + n ≤ 1000000) (hN : N ≤ w.heap.size)
  (h : ∀ v' w', OV N w' v' (ts ++ ys.map (·.2)) → (∀ w0, Below N w0 w → Below N w0 w') → wpList Tryz.prog ops Q rest (a.put o.dst v') w') : wpList Tryz.prog ops Q (o :: rest) a w := by
 obtain ⟨xs, h1, h2, rfl⟩ := hown
 refine append_rows hgd s x _ ho Tryz.underlying121 Tryz.infoTx rfl (by decide) (by decide) encX_len encX_one N v xs ys hs h1 (some ⟨g, 0, none⟩) n c hx (fun h => by cases h) hY (by rw [hY.1]; rw [List.length_map] at hbig; exact hbig) hN ?_
 intro v' w' k1 k2 k3
 refine h v' w' ⟨xs ++ ys, k1, fun y hy => ?_, by rw [List.map_append]⟩ k3
 rcases List.mem_append.1 hy with q | q
 ·exact (h2 y q).grown k2 h1
 ·exact (hT y q).grown k2 h1
theorem append_ovw {w : World} {o : Oper} {a : Act} {K : Act → World → Prop} {Q : Exit → Act → World → Prop} (s x : Operand)
  (ho : o.op = .call { callee := .builtin .append, args := #[s, x], argTypes := #[121, 121] })
  (N : Nat) (v : Value) (ts : List (List Int)) (hs : a.eval s = v) (hown : OV N w v ts) (g n c : Nat) (ys : List Tx) (hx : a.eval x = .slice (some ⟨g, 0, none⟩) n c) (hY : RS encX 1 w (some ⟨g, 0, none⟩) n ys) (hT : TUs w ys)
  (hbig : ts.length + n ≤ 1000000) (hN : N ≤ w.heap.size)
  (h : ∀ v' w', OV N w' v' (ts ++ ys.map (·.2)) → (∀ w0, Below N w0 w → Below N w0 w') → (∀ g C t, BX w g C t → 59 ≠ t → BX w' g C t) → K (a.put o.dst v') w') : Oper.wp Tryz.prog o a w K Q := by
 obtain ⟨xs, h1, h2, rfl⟩ := hown
 refine append_rg s x _ ho Tryz.underlying121 Tryz.infoTx rfl (by decide) (by decide) encX_len encX_one N v xs ys hs h1 (some ⟨g, 0, none⟩) n c hx (fun h => by cases h) hY (by rw [hY.1]; rw [List.length_map] at hbig; exact hbig) hN ?_
 intro v' w' k1 k2 k3
 refine h v' w' ⟨xs ++ ys, k1, fun y hy => ?_, by rw [List.map_append]⟩ k3 (fun g C t hb hne => hb.grown k2 (h1.off hb hne))
 rcases List.mem_append.1 hy with q | q
 ·exact (h2 y q).grown k2 h1
 ·exact (hT y q).grown k2 h1
theorem own_tx {N : Nat} {w : World} {v : Value} {l : List Int} (h : Own N w v l) (hl : By l) : ∃ p c, v = .slice p l.length c ∧ TU w (.slice p l.length c) l := by
 obtain ⟨p, c, rfl, h1, h2⟩ := h.open hl
 exact ⟨p, c, rfl, h.tu hl⟩
theorem pack_by {ps : List (List Int)} (h : ∀ p ∈ ps, By p) : By (pack ps) := by
 unfold pack
 refine (num_by _).append ?_
 intro x hx
 obtain ⟨p, hp, hx⟩ := List.mem_flatMap.1 hx
 exact text_by (h p hp) x hx
theorem mayD_in {d : Dot} (h : mayD d = true) : (0 ≤ d.1 ∧ d.1 ≤ 9223372036854775807) ∧ 0 ≤ d.2 ∧ d.2 ≤ 9223372036854775807 := by
 simp [mayD] at h
 omega
set_option maxRecDepth 2000 in
set_option maxHeartbeats 8000000 in
theorem entryB13 (sk : ByteArray) (pl : Option Addr) (nl cl : Nat) (pd : Option Addr) (nd cd : Nat) (l m : List Dot) (w : World) (hk : sk.size ≤ 32) (hD : DS w pl nl l) (hn : nl ≤ 400) (hd : ∀ d ∈ l, mayD d = true) : Calls Tryz.prog 81 #[.agg #[.string sk, .slice pl nl cl, .slice pd nd cd]] w fun e w' => ∃ v, e = .returned v ∧ Own w.heap.size w' v (entB (sk, l, m)) ∧ Below w.heap.size w w' := by
 have HEN := hide (ent_texts (L := 400) (x := (sk, l, [])) ⟨hk, hd, by have := hD.1; simp only; omega, rfl⟩)
 have hsk : sk.size ≤ maxLen := by unfold maxLen; omega
 have hc1 : ∀ W, _ := fun W => conv13 W sk
 have HD := hide hD
 have HLEN := hide hD.1
 have HDD := hide hd
 have HU := hide (bel1 w (.cells #[.string sk, .slice pl nl cl, .slice pd nd cd] 125))
 have z0 := cell_new w #[.string sk, .slice pl nl cl, .slice pd nd cd] 125 _ rfl 0 _ rfl
 have Z1 := hide (cell_new w #[.string sk, .slice pl nl cl, .slice pd nd cd] 125 _ rfl 1 _ rfl)
 clear hD hd
 go_enter Tryz.func81, Tryz.ntmps81
 go_upto_region 1 with fail
 generalize hu : w.alloc (.cells #[.string sk, .slice pl nl cl, .slice pd nd cd] 125) = u at *
 clear hu
 have HTU := hide (TU.made (Below.refl _ u) sk hsk)
 have HBc := hide (conv_bel u 5 sk)
 go_upto_region 2 with fail
 clear z0 hc1
 have HV0 := hide (OV.lit _ w.heap.size (Nat.le_trans HU.out.size HBc.out.size) (some ⟨u.heap.size, 0, none⟩, sk.size, grownCap u sk.size 0 5) (bytesL sk) HTU.out)
 have HB0 := hide (bel_next (bel_next HU.out HBc.out) (bel1 _ (.cells #[.slice (some ⟨u.heap.size, 0, none⟩) sk.size (grownCap u sk.size 0 5)] 59)))
 have z1 := bcell (bel1 _ (.cells #[.slice (some ⟨u.heap.size, 0, none⟩) sk.size (grownCap u sk.size 0 5)] 59)) (bcell HBc.out Z1.out)
 simp only [hdV] at HV0
 clear HTU HBc HU Z1
 generalize (bytesWorld u 5 sk).heap.size = gv at *
 generalize (bytesWorld u 5 sk).alloc (.cells #[.slice (some ⟨u.heap.size, 0, none⟩) sk.size (grownCap u sk.size 0 5)] 59) = u2 at *
 go_wp2
 clear z1
 go_loopw [3, 13] (fun V v wr => ∃ i : Nat, i ≤ nl ∧ v = .int .i64 i ∧ Hid (OV w.heap.size wr V (bytesL sk :: (l.take i).flatMap (fun d => [num d.1, num d.2]))) ∧ Hid (Below w.heap.size w wr)) (fun _ v _ => nl - (intOf v).toNat)
 case atStart => exact ⟨0, by omega, rfl, (show OV _ _ _ _ from HV0.out), HB0⟩
 case round =>
  clear HV0 HB0
  obtain ⟨i, hi, rfl, HV, HB⟩ := hrel
  by_cases hlt : i < nl
  ·obtain ⟨bd, od, rfl⟩ := HD.out.addr (by omega)
   obtain ⟨r, q, hx, x0, x1⟩ := (HD.out.below HB.out).one i hlt
   have hi0 : (0 : Int) ≤ (i : Int) := by omega
   have hi1 : (i : Int) < (nl : Int) := by omega
   have hrq := mayD_in (HDD.out _ (List.mem_of_getElem? hx))
   have hr := hrq.1
   have hq := hrq.2
   have HNX : Hid ((bytesL sk :: (l.take (i + 1)).flatMap (fun d => [num d.1, num d.2])) = (bytesL sk :: (l.take i).flatMap (fun d => [num d.1, num d.2])) ++ [num r, num q]) := by
    unfold Hid
    rw [take_snocL hx, List.flatMap_append]
    simp
   have HFL : Hid ((bytesL sk :: (l.take i).flatMap (fun d => [num d.1, num d.2])).length ≤ 900) := by
    unfold Hid
    rw [List.length_cons, dots_len, List.length_take]
    omega
   clear hx hrq
   go_upto_region 5 with fail
   have HXD : Hid (BX (wr.alloc (.cells #[.int .i64 r, .int .i64 q] 33)) wr.heap.size #[.int .i64 r, .int .i64 q] 33) := BX.new wr _ rfl _ _
   have BQ := hide (bel1 wr (.cells #[.int .i64 r, .int .i64 q] 33))
   replace HV := hide (HV.out.below BQ.out)
   replace HB := hide (bel_next HB.out BQ.out)
   clear x0 x1 BQ
   generalize wr.heap.size = gX at *
   generalize wr.alloc (.cells #[.int .i64 r, .int .i64 q] 33) = wx at *
   replace HV := hide (HV.out.below (Below.refl _ wx).drew)
   refine wp_region_held_drew (S := fun W => Below w.heap.size w W ∧ BX W gX #[.int .i64 r, .int .i64 q] 33) (by kernel_rfl) (⟨HB.out.drew, HXD.out.drew⟩) (fun hS0 => ?_)
   generalize wx.drew = x1 at *
   refine tkJ 0 17 hS0 ?_; simp only [ly]
   refine tkJ 1 18 hS0 ?_; simp only [ly]
   refine tkL 2 19 hS0 ?h ?_; case h => (intro W hW; have e0 := hW.2.cell 0 _ rfl; have e1 := hW.2.cell 1 _ rfl; clear hW; go_simp; try rfl); simp only [ly]
   refine tkJ 4 21 hS0 ?_; simp only [ly]
   refine tkL 5 22 hS0 ?h ?_; case h => (intro W hW; have e0 := hW.2.cell 0 _ rfl; have e1 := hW.2.cell 1 _ rfl; clear hW; go_simp; try rfl); simp only [ly]
   refine wpAnyH_ready (rs := [3]) (by kernel_rfl) (by simp) ?_
   refine AllReadyH.cons rfl (fun K hK => ?_) AllReadyH.nil
   go_simp
   refine (number13 r _ hr.1 hr.2).mono ?_
   rintro e w1 ⟨v9, rfl, ho9, hb⟩
   obtain ⟨p1, c1, hv9, ht9⟩ := own_tx ho9 (num_by r)
   subst hv9
   have T1 := hide ht9
   clear ht9 ho9
   replace HV := hide (HV.out.below hb)
   skip
   have BS9 : Below w.heap.size w w1 ∧ BX w1 gX #[.int .i64 r, .int .i64 q] 33 := ⟨bel_next hS0.1 hb, hS0.2.below hb⟩
   refine hK.out _ _ ?hs6 (fun hS1 => ?_)
   case hs6 => exact BS9
   clear hK K
   try simp only [ly]
   refine wpAnyH_ready (rs := [6]) (by kernel_rfl) (by simp) ?_
   refine AllReadyH.cons rfl (fun K hK => ?_) AllReadyH.nil
   go_simp
   refine (number13 q _ hq.1 hq.2).mono ?_
   rintro e w2 ⟨v9, rfl, ho9, hb⟩
   obtain ⟨p2, c2, hv9, ht9⟩ := own_tx ho9 (num_by q)
   subst hv9
   have T2 := hide ht9
   clear ht9 ho9
   replace HV := hide (HV.out.below hb)
   replace T1 := hide (T1.out.below hb)
   have BS9 : Below w.heap.size w w2 ∧ BX w2 gX #[.int .i64 r, .int .i64 q] 33 := ⟨bel_next hS1.1 hb, hS1.2.below hb⟩
   refine hK.out _ _ ?hs7 (fun hS2 => ?_)
   case hs7 => exact BS9
   clear hK K
   try simp only [ly]
   refine wpAnyH_ready (rs := [7]) (by kernel_rfl) (by simp) ?_
   refine AllReadyH.cons rfl (fun K hK => ?_) AllReadyH.nil
   go_simp
   have DB := hide (tx_row w2 [((p1, (num r).length, c1), num r), ((p2, (num q).length, c2), num q)] #[.slice p1 (num r).length c1, .slice p2 (num q).length c2] rfl 2 rfl (by omega))
   have hb := bel1 w2 (.cells #[.slice p1 (num r).length c1, .slice p2 (num q).length c2] 59)
   replace HV := hide (HV.out.below hb)
   replace T1 := hide (T1.out.below hb)
   replace T2 := hide (T2.out.below hb)
   have BS9 : Below w.heap.size w (w2.alloc (.cells #[.slice p1 (num r).length c1, .slice p2 (num q).length c2] 59)) ∧ BX (w2.alloc (.cells #[.slice p1 (num r).length c1, .slice p2 (num q).length c2] 59)) gX #[.int .i64 r, .int .i64 q] 33 := ⟨bel_next hS2.1 hb, hS2.2.below hb⟩
   clear hb
   generalize w2.heap.size = gw at DB ⊢
   generalize w2.alloc (.cells #[.slice p1 (num r).length c1, .slice p2 (num q).length c2] 59) = wk at DB HV T1 T2 BS9 ⊢
   refine hK.out _ _ ?hs8 (fun hS3 => ?_)
   case hs8 => exact BS9
   clear hK K
   try simp only [ly]
   refine wpAnyH_ready (rs := [8]) (by kernel_rfl) (by simp) ?_
   refine AllReadyH.cons rfl (fun K hK => ?_) AllReadyH.nil
   rw [if_pos (by kernel_rfl)]
   refine append_ovw _ _ rfl w.heap.size _ _ rfl HV.out gw 2 2 _ rfl DB.out (fun y hy => by simp only [List.mem_cons, List.not_mem_nil, or_false] at hy; rcases hy with rfl | rfl; exact T1.out; exact T2.out) (by have h9 := HFL.out; omega) hS3.1.size ?_
   intro v5 w5 ho5 hbel5 hbx5
   have O5 := hide ho5
   have BS5 : Below w.heap.size w w5 ∧ BX w5 gX #[.int .i64 r, .int .i64 q] 33 := ⟨hbel5 _ hS3.1, hbx5 _ _ _ hS3.2 (by decide)⟩
   clear ho5 hbel5 hbx5
   change K (Act.put _ (some 25) _) _
   refine hK.out _ _ ?hs9 (fun hS4 => ?_)
   case hs9 => exact BS5
   clear hK K
   try simp only [ly]
   refine tkJ 9 3 hS4 ?_; simp only [ly]
   refine wpAnyH_done (by kernel_rfl) ?_ _
   go_wp2
   go_roundw
   case rel => exact ⟨i + 1, by omega, by go_num, (show Hid _ from by unfold Hid; rw [HNX.out]; exact O5.out), (show Hid _ from hS4.1)⟩
   case measure => simp [intOf]; omega
  ·obtain rfl : i = nl := by omega
   have h9 := HV.out
   rw [List.take_of_length_le (by rw [HLEN.out]; exact Nat.le_refl _)] at h9
   obtain ⟨p9, c9, hv9, hpc, _⟩ := h9.open
   subst hv9
   have HPC := hide hpc
   clear hpc h9 HV
   have HLL : Hid (∀ t ∈ bytesL sk :: l.flatMap (fun d => [num d.1, num d.2]), t.length ≤ 100000) := fun t ht => by have h9 := HEN.out.1 t ht; omega
   have hNN : (bytesL sk :: l.flatMap (fun d => [num d.1, num d.2])).length ≤ 1000 := by have h9 := HEN.out.2; omega
   have HRS : Hid (pack (bytesL sk :: l.flatMap (fun d => [num d.1, num d.2])) = entB (sk, l, m)) := rfl
   generalize (bytesL sk :: l.flatMap (fun d => [num d.1, num d.2])) = TS at *
   generalize TS.length = nL at *
   clear HEN HDD HD HLEN
   go_wp2_with (go_at_call 88; refine (pack_any p9 _ c9 _ _ HPC.out hNN HLL.out).mono ?_; rintro e w9 ⟨v, rfl, ho, hb⟩; have HO := hide (ho.mono HB.out.size); replace HB := hide (bel_next HB.out hb); clear ho hb)
   go_ret
   exact ⟨_, rfl, (by rw [← HRS.out]; exact HO.out), HB.out⟩
end Go.Proofs.YtkbbegbpkndebaaGreat

