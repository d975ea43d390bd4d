/- Texts of this claim, joined: OR. -/
import Derived.Test.YtomppblgalepjaaGreatDoorJ35
/- The program's builder: numbers, and lines that name a thing (layer 16). -/
namespace Go.Proofs.YtomppblgalepjaaGreatDoor
open Go.RowKit Go.Lib
set_option linter.unusedVariables false
def KpD (w w' : World) : Prop := ∀ (g : Nat) (C : Array Value), BX w g C 38 → BX w' g C 38
theorem KpD.next {w u u' : World} (h : KpD w u) (hb : Below u.heap.size u u') : KpD w u' := fun g C q => (h g C q).below hb
theorem KpD.grown {α : Type} {enc : α → List Value} {k : Nat} {T : TypeId} {N : Nat} {w u u' : World} {v : Value} {l : List α} (h : KpD w u) (hr : OwnR enc k T N u v l) (hT : T ≠ 38) (hg : u.grownBy u' v.ownBlock) : KpD w u' := fun g C q => (h g C q).grown hg (OwnR.off hr (h g C q) hT)
theorem KpD.set {w u : World} {gb : Nat} {C : Array Value} (h : KpD w u) (hx : BX u gb C 50) (i : Nat) (x : Value) : KpD w (u.setCell ⟨gb, i, none⟩ x) := fun g C' q => BX.other (h g C' q) (fun e => by
 have q2 := h g C' q
 subst e
 unfold BX at hx q2
 rw [hx] at q2
 cases q2) i x
theorem KpD.gq {w u u' : World} {D k : Nat} {h : Int × Int × Int} {x : Sn16} (hk : KpD w u) (hs : SN u D h k x) (hg : GQ 4 D u u') : KpD w u' := fun g C q => (hk g C q).gq hg (hs.offR (hk g C q) (by decide))
def numO (fn : Int → ByteArray → Option Int) (s : Int) (nm : ByteArray) : Option Int := if s = 0 then some 0 else fn s nm
set_option maxHeartbeats 2000000 in
set_option maxRecDepth 8000 in
theorem number16 (gb M : Nat) (v1 v2 v3 v4 v5 v6 : Value) (fn : Int → ByteArray → Option Int) (s : Int) (nm : ByteArray) (w : World) (hx : BX w gb #[v1, v2, v3, v4, v5, v6, .map (some M)] 50) (hm : MM w M fn) (hs : 0 ≤ s ∧ s ≤ 100) (hn : nm.size ≤ maxLen) :
  Calls Tryz.prog 54 #[.pointer (some ⟨gb, 0, none⟩), .int .i64 s, .string nm] w fun e w' => e = .returned (.tuple #[.int .i64 ((numO fn s nm).getD 0), .bool (numO fn s nm).isSome]) ∧ w' = w := by
 unfold numO
 by_cases h0 : s = 0
 ·subst h0
  rw [if_pos rfl]
  clear hx hm hs hn
  go_enter Tryz.func54, Tryz.ntmps54
  go_wp2
  go_ret2
  exact ⟨rfl, rfl⟩
 ·rw [if_neg h0]
  have b0 : (s == 0) = false := by simpa using h0
  have c6 : w.cell? ⟨gb, 6, none⟩ = some (.map (some M)) := hx.cell 6 _ rfl
  obtain ⟨k, hm⟩ := hm
  rcases hz : fn s nm with _ | z
  ·have hl := hm.look (WalkArith.wf_i64 (by omega)) hn hz
   simp only [Option.getD_none, Option.isSome_none] at hl ⊢
   clear hx hm hs hn hz h0
   go_enter Tryz.func54, Tryz.ntmps54
   go_wp2
   go_ret2
   exact ⟨rfl, rfl⟩
  ·have hl := hm.look (WalkArith.wf_i64 (by omega)) hn hz
   simp only [Option.getD_some, Option.isSome_some] at hl ⊢
   clear hx hm hs hn hz h0
   go_enter Tryz.func54, Tryz.ntmps54
   go_wp2
   go_ret2
   exact ⟨rfl, rfl⟩
set_option maxHeartbeats 8000000 in
set_option maxRecDepth 8000 in
theorem bthing16_1 (N gb D M k : Nat) (h : Int × Int × Int) (t1 t2 t3 cl op : Int) (S : List ByteArray) (G : List Int) (f : Int → Int → Int) (fn : Int → ByteArray → Option Int) (v1 v2 v3 v4 v5 : Value) (r : Ru) (st : Bool) (nm ot : ByteArray) (n ln : Int) (p : Option Addr) (m c : Nat) (w0 w : World) (hD : BD N w gb D M h k ((t1, t2, t3, cl, op), S, G, f) fn v1 v2 v3 v4 v5 r) (hB : Below N w0 w) (hk : k ≤ 9000) (hs : nm.size ≤ maxLen) (ht : 0 ≤ t1 ∧ t1 ≤ 1000) (hl : r.1.length ≤ 1000) :
  Calls Tryz.prog 37 #[.pointer (some ⟨gb, 0, none⟩), .agg #[.int .i64 1, .bool st, .string nm, .string ot, .int .i64 n, .slice p m c, .int .i64 ln]] w fun e w' => e = .returned (.bool (thB1 t1 S nm)) ∧ Below N w0 w' ∧ KpD w w' ∧ (thB1 t1 S nm = true → ∃ v1 v2 v3 v4 v5, BD N w' gb D M h (k + 20) ((t1 + 1, t2, t3, cl, op), S ++ [nm], G, f) fn v1 v2 v3 v4 v5 (r.1 ++ [nm], r.2)) := by
 obtain ⟨hx, hsn, hmm, hw, hgb, hgmd, hgmn, hnw⟩ := hD
 have HK := hide hk
 have HZS := hide hs
 have HT := hide ht
 have HLN := hide hl
 have HGB := hide hgb
 have HGMD := hide hgmd
 have HGMN := hide hgmn
 have HGND : Hid (N ≤ D) := by unfold Hid; omega
 have HGN : Hid (N ≤ gb) := by unfold Hid; omega
 have HGM : Hid (gb ≠ M) := by unfold Hid; omega
 have hgw := hx.size
 have HNN := hide (Nat.le_refl N)
 have bq := bel1 w (.cells #[.int .i64 1, .bool st, .string nm, .string ot, .int .i64 n, .slice p m c, .int .i64 ln] 38)
 have HX := hide (hx.below bq)
 have HSN := hide (hsn.below bq)
 have HMM := hide (hmm.below bq)
 have HW := hide (hw.below bq)
 have HXD : Hid (BX (w.alloc (.cells #[.int .i64 1, .bool st, .string nm, .string ot, .int .i64 n, .slice p m c, .int .i64 ln] 38)) w.heap.size #[.int .i64 1, .bool st, .string nm, .string ot, .int .i64 n, .slice p m c, .int .i64 ln] 38) := BX.new w _ rfl _ _
 have HB : Hid (Below N w0 (w.alloc (.cells #[.int .i64 1, .bool st, .string nm, .string ot, .int .i64 n, .slice p m c, .int .i64 ln] 38))) := hB.alloc hnw _
 have HNW : Hid (N ≤ (w.alloc (.cells #[.int .i64 1, .bool st, .string nm, .string ot, .int .i64 n, .slice p m c, .int .i64 ln] 38)).heap.size) := Nat.le_trans hnw bq.size
 have HGD : Hid (w.heap.size ≠ gb) := by unfold Hid; omega
 have HKD : Hid (KpD w (w.alloc (.cells #[.int .i64 1, .bool st, .string nm, .string ot, .int .i64 n, .slice p m c, .int .i64 ln] 38))) := fun g C q => q.below bq
 have HGDD : Hid (D + 4 ≤ w.heap.size) := by unfold Hid; omega
 clear hx hsn hmm hw hgb hgmd hgmn hnw hk hs ht hl hB bq hgw
 go_enter Tryz.func37, Tryz.ntmps37
 go_upto_region 3 with fail
 generalize w.alloc (.cells #[.int .i64 1, .bool st, .string nm, .string ot, .int .i64 n, .slice p m c, .int .i64 ln] 38) = u0 at *
 generalize w.heap.size = gd at *
 replace HX := hide (HX.out.below (Below.refl _ u0).drew)
 replace HSN := hide (HSN.out.below (Below.refl _ u0).drew)
 replace HMM := hide (HMM.out.below (Below.refl _ u0).drew)
 replace HW := hide (HW.out.below (Below.refl _ u0).drew)
 replace HXD := hide (HXD.out.below (Below.refl _ u0).drew)
 replace HKD := hide (HKD.out.next (Below.refl _ u0).drew)
 replace HB := hide HB.out.drew
 replace HNW : Hid (N ≤ u0.drew.heap.size) := HNW
 refine wp_region_any (by kernel_rfl) ?_
 change wpAny _ _ _ _ _ _ _ (World.drew _)
 generalize u0.drew = x1 at *
 have z0 := HX.out.cell 0 _ rfl
 have d2 := HXD.out.cell 2 _ rfl
 refine takeP 0 9 ?v1 rfl rfl (by kernel_rfl) (by kernel_rfl) (by kernel_rfl) (fun _ _ _ h => h) (by kernel_rfl) ?hy1 ?_
 case hy1 => (intro W; go_simp; try rfl)
 simp only [ly]
 refine takeP 1 10 ?v2 rfl rfl (by kernel_rfl) (by kernel_rfl) (by kernel_rfl) (fun _ _ _ h => h) (by kernel_rfl) ?hy2 ?_
 case hy2 => (intro W; go_simp; try rfl)
 simp only [ly]
 refine takeP 2 11 ?v3 rfl rfl (by kernel_rfl) (by kernel_rfl) (by kernel_rfl) (fun _ _ _ h => h) (by kernel_rfl) ?hy3 ?_
 case hy3 => (intro W; go_simp; try rfl)
 simp only [ly]
 refine takeP 3 12 ?v4 rfl rfl (by kernel_rfl) (by kernel_rfl) (by kernel_rfl) (fun _ _ _ h => h) (by kernel_rfl) ?hy4 ?_
 case hy4 => (intro W; go_simp; try rfl)
 simp only [ly]
 refine takeP 4 13 ?v5 rfl rfl (by kernel_rfl) (by kernel_rfl) (by kernel_rfl) (fun _ _ _ h => h) (by kernel_rfl) ?hy5 ?_
 case hy5 => (intro W; go_simp; try rfl)
 simp only [ly]
 refine takeP 6 15 ?v6 rfl rfl (by kernel_rfl) (by kernel_rfl) (by kernel_rfl) (fun _ _ _ h => h) (by kernel_rfl) ?hy6 ?_
 case hy6 => (intro W; go_simp; try rfl)
 simp only [ly]
 refine wpAny_ready (rs := [5, 7]) (by kernel_rfl) (by simp) ?_
 refine AllReady.cons rfl (fun K hK => ?_) (AllReady.cons rfl (fun K hK => ?_) AllReady.nil)
 ·go_simp
  first | (refine hK _ _ ?_; clear hK K) | skip
  try simp only [ly]
  refine wpAny_ready (rs := [7]) (by kernel_rfl) (by simp) ?_
  refine AllReady.cons rfl (fun K hK => ?_) AllReady.nil
  go_simp
  first | (refine hK _ _ ?_; clear hK K) | skip
  try simp only [ly]
  refine wpAny_ready (rs := [8]) (by kernel_rfl) (by simp) ?_
  refine AllReady.cons rfl (fun K hK => ?_) AllReady.nil
  go_simp
  have bq := bel1 x1 (.cells #[.string nm] 9)
  have HE := hide (RS.new encSt_len x1 _ rfl [nm] #[.string nm] rfl 9 (0, 0) 1 rfl (by decide))
  replace HX := hide (HX.out.below bq)
  replace HSN := hide (HSN.out.below bq)
  replace HMM := hide (HMM.out.below bq)
  replace HW := hide (HW.out.below bq)
  replace HXD := hide (HXD.out.below bq)
  replace HKD := hide (HKD.out.next bq)
  replace HB := hide (HB.out.trans (bq.mono HNW.out))
  have hNw := Nat.le_trans HNW.out bq.size
  clear bq z0 d2 HNW
  have HNW := hide hNw
  clear hNw
  generalize x1.alloc (.cells #[.string nm] 9) = x6 at *
  have z0 := HX.out.cell 0 _ rfl
  have d2 := HXD.out.cell 2 _ rfl
  first | (refine hK _ _ ?_; clear hK K) | skip
  try simp only [ly]
  refine wpAny_ready (rs := [9]) (by kernel_rfl) (by simp) ?_
  refine AllReady.cons rfl (fun K hK => ?_) AllReady.nil
  refine append_wh _ _ 25 rfl Tryz.underlying25 Tryz.infoSt rfl (by decide) (by decide) encSt_len encSt_one N _ r.1 [nm] rfl HW.out.1.1 ⟨_, 0, none⟩ 1 1 rfl (by decide) HE.out (by have h9 := HLN.out; simp only [List.length_singleton]; omega) HNW.out ?_
  intro v7 x7 ho hgr hbel hwh
  obtain ⟨p7, c7, hv7, _, _⟩ := ho.open encSt_len
  obtain ⟨n7, hn7⟩ : ∃ n7, (r.1 ++ [nm]).length = n7 := ⟨_, rfl⟩
  rw [hn7] at hv7
  subst hv7
  clear hn7
  have HB7 : Hid (Below N w0 x7) := hbel w0 HB.out
  replace HX := hide (HX.out.grown hgr (OwnR.off HW.out.1.1 HX.out (by decide)))
  replace HXD := hide (HXD.out.grown hgr (OwnR.off HW.out.1.1 HXD.out (by decide)))
  replace HKD := hide (HKD.out.grown HW.out.1.1 (by decide) hgr)
  replace HSN := hide (HSN.out.grown HW.out.1.1 (by decide) hgr)
  replace HMM := hide (HMM.out.grown HW.out.1.1 hgr)
  have HNW7 := hide (Nat.le_trans HNW.out hgr.size)
  replace HW := hide (HW.out.str1 ho hgr hwh)
  clear ho hgr hbel hwh HE z0 d2 HB HNW
  have z0 := HX.out.cell 0 _ rfl
  have y0 := HX.out.free 0
  have d0 := HXD.out.cell 0 _ rfl
  have d2 := HXD.out.cell 2 _ rfl
  change K (Act.put _ (some 18) _) _
  first | (refine hK _ _ ?_; clear hK K) | skip
  try simp only [ly]
  refine takeP 10 19 ?v7 rfl rfl (by kernel_rfl) (by kernel_rfl) (by kernel_rfl) (fun _ _ _ h => h) (by kernel_rfl) ?hy7 ?_
  case hy7 => (intro W; go_simp; try rfl)
  simp only [ly]
  refine takeP 11 20 ?v8 rfl rfl (by kernel_rfl) (by kernel_rfl) (by kernel_rfl) (fun _ _ _ h => h) (by kernel_rfl) ?hy8 ?_
  case hy8 => (intro W; go_simp; try rfl)
  simp only [ly]
  refine takeP 12 21 ?v9 rfl rfl (by kernel_rfl) (by kernel_rfl) (by kernel_rfl) (fun _ _ _ h => h) (by kernel_rfl) ?hy9 ?_
  case hy9 => (intro W; go_simp; try rfl)
  simp only [ly]
  refine wpAny_ready (rs := [13]) (by kernel_rfl) (by simp) ?_
  refine AllReady.cons rfl (fun K hK => ?_) AllReady.nil
  go_simp
  first | (refine hK _ _ ?_; clear hK K) | skip
  try simp only [ly]
  refine wpAny_done (by kernel_rfl) ?_ _
  have HX0 := hide HX.out
  replace HKD := hide (HKD.out.set HX0.out 0 (.slice p7 n7 c7))
  replace HX := hide (HX0.out.set 0 (.slice p7 n7 c7))
  replace HXD : Hid (BX (x7.setCell ⟨gb, 0, none⟩ (.slice p7 n7 c7)) gd #[.int .i64 1, .bool st, .string nm, .string ot, .int .i64 n, .slice p m c, .int .i64 ln] 38) := BX.other HXD.out (Ne.symm HGD.out) 0 (.slice p7 n7 c7)
  replace HSN := hide (SN.set HSN.out (.inr HGB.out) 0 (.slice p7 n7 c7))
  replace HMM := hide (HMM.out.set HGM.out 0 (.slice p7 n7 c7))
  replace HW := hide (RW.set HW.out HX0.out ty_bld 0 (.slice p7 n7 c7))
  have HB : Hid (Below N w0 (x7.setCell ⟨gb, 0, none⟩ (.slice p7 n7 c7))) := HB7.out.setCell (p := ⟨gb, 0, none⟩) HGN.out (.slice p7 n7 c7)
  have HNW : Hid (N ≤ (x7.setCell ⟨gb, 0, none⟩ (.slice p7 n7 c7)).heap.size) := by unfold Hid; simpa [World.setCell] using HNW7.out
  have e5 : (x7.setCell ⟨gb, 0, none⟩ (.slice p7 n7 c7)).cell? ⟨gb, 5, none⟩ = some (.pointer (some ⟨D + 3, 0, none⟩)) := HX.out.cell 5 _ rfl
  have e0 := HXD.out.cell 0 _ rfl
  have e2 := HXD.out.cell 2 _ rfl
  clear z0 y0 d0 d2 HB7 HNW7 HX0
  go_upto_region 8 with fail
  generalize x7.setCell ⟨gb, 0, none⟩ (.slice p7 n7 c7) = u at *
  have HBD : Hid (BD N u gb D M h k ((t1, t2, t3, cl, op), S, G, f) fn (.slice p7 n7 c7) v2 v3 v4 v5 (r.1 ++ [nm], r.2)) := ⟨HX.out, HSN.out, HMM.out, HW.out, HGB.out, HGMD.out, HGMN.out, HNW.out⟩
  have HXU : Hid (SN u.drew D h k ((t1, t2, t3, cl, op), S, G, f)) := HSN.out.below (Below.refl u.heap.size u).drew
  have m5 := e5
  have m0 := e0
  have m2 := e2
  clear e5 e0 e2
  rcases hb : thB1 t1 S nm with _ | _
  ·have HRB := hide hb
   clear hb
   refine wp_region_held_drew (S := fun W => GQ 4 D u W) (by kernel_rfl) ((GQ.refl 4 D u).drew) (fun hS0 => ?_)
   refine tkJ 0 52 hS0 ?_; simp only [ly]
   refine tkJ 1 53 hS0 ?_; simp only [ly]
   refine tkJ 2 54 hS0 ?_; simp only [ly]
   refine tkI 3 55 ?v13 rfl rfl hS0 ?hy13 ?_
   case hy13 => (intro W hW; have e0 := gqcell hW m5 (.inr (by first | exact HGB.out | exact HGDD.out)); have e1 := gqcell hW m0 (.inr (by first | exact HGB.out | exact HGDD.out)); have e2 := gqcell hW m2 (.inr (by first | exact HGB.out | exact HGDD.out)); clear hW; go_simp; try rfl)
   simp only [ly]
   refine tkJ 4 56 hS0 ?_; simp only [ly]
   refine tkI 5 57 ?v15 rfl rfl hS0 ?hy15 ?_
   case hy15 => (intro W hW; have e0 := gqcell hW m5 (.inr (by first | exact HGB.out | exact HGDD.out)); have e1 := gqcell hW m0 (.inr (by first | exact HGB.out | exact HGDD.out)); have e2 := gqcell hW m2 (.inr (by first | exact HGB.out | exact HGDD.out)); clear hW; go_simp; try rfl)
   simp only [ly]
   refine tkJ 6 58 hS0 ?_; simp only [ly]
   refine tkI 7 59 ?v17 rfl rfl hS0 ?hy17 ?_
   case hy17 => (intro W hW; have e0 := gqcell hW m5 (.inr (by first | exact HGB.out | exact HGDD.out)); have e1 := gqcell hW m0 (.inr (by first | exact HGB.out | exact HGDD.out)); have e2 := gqcell hW m2 (.inr (by first | exact HGB.out | exact HGDD.out)); clear hW; go_simp; try rfl)
   simp only [ly]
   refine wpAnyH_ready (rs := [8]) (by kernel_rfl) (by simp) ?_
   refine AllReadyH.cons rfl (fun K hK => ?_) AllReadyH.nil
   go_simp
   go_at_call 46
   refine (thing16_1 D k h t1 t2 t3 cl op S G f nm _ HXU.out (Nat.le_trans HK.out (by decide)) HZS.out HT.out).mono ?_
   rintro e w1 ⟨rfl, hq, hp⟩
   rw [HRB.out]
   clear hp
   refine hK.out _ _ ?hs18 (fun hS1 => ?_)
   case hs18 => exact GQ.trans hS0 hq
   clear hK K
   try simp only [ly]
   refine tkJ 9 4 hS1 ?_; simp only [ly]
   refine wpAnyH_done (by kernel_rfl) ?_ _
   have HQ := hide hS1
   go_wp2
   go_ret
   exact ⟨by rw [HRB.out]; rfl, GQ.bel HB.out HQ.out HNW.out HGND.out, HKD.out.gq HBD.out.2.1 HQ.out, fun hh => by rw [HRB.out] at hh; cases hh⟩
  ·have HRB := hide hb
   clear hb
   refine wp_region_held_drew (S := fun W => GQ 4 D u W) (by kernel_rfl) ((GQ.refl 4 D u).drew) (fun hS0 => ?_)
   refine tkJ 0 52 hS0 ?_; simp only [ly]
   refine tkJ 1 53 hS0 ?_; simp only [ly]
   refine tkJ 2 54 hS0 ?_; simp only [ly]
   refine tkI 3 55 ?v23 rfl rfl hS0 ?hy23 ?_
   case hy23 => (intro W hW; have e0 := gqcell hW m5 (.inr (by first | exact HGB.out | exact HGDD.out)); have e1 := gqcell hW m0 (.inr (by first | exact HGB.out | exact HGDD.out)); have e2 := gqcell hW m2 (.inr (by first | exact HGB.out | exact HGDD.out)); clear hW; go_simp; try rfl)
   simp only [ly]
   refine tkJ 4 56 hS0 ?_; simp only [ly]
   refine tkI 5 57 ?v25 rfl rfl hS0 ?hy25 ?_
   case hy25 => (intro W hW; have e0 := gqcell hW m5 (.inr (by first | exact HGB.out | exact HGDD.out)); have e1 := gqcell hW m0 (.inr (by first | exact HGB.out | exact HGDD.out)); have e2 := gqcell hW m2 (.inr (by first | exact HGB.out | exact HGDD.out)); clear hW; go_simp; try rfl)
   simp only [ly]
   refine tkJ 6 58 hS0 ?_; simp only [ly]
   refine tkI 7 59 ?v27 rfl rfl hS0 ?hy27 ?_
   case hy27 => (intro W hW; have e0 := gqcell hW m5 (.inr (by first | exact HGB.out | exact HGDD.out)); have e1 := gqcell hW m0 (.inr (by first | exact HGB.out | exact HGDD.out)); have e2 := gqcell hW m2 (.inr (by first | exact HGB.out | exact HGDD.out)); clear hW; go_simp; try rfl)
   simp only [ly]
   refine wpAnyH_ready (rs := [8]) (by kernel_rfl) (by simp) ?_
   refine AllReadyH.cons rfl (fun K hK => ?_) AllReadyH.nil
   go_simp
   go_at_call 46
   refine (thing16_1 D k h t1 t2 t3 cl op S G f nm _ HXU.out (Nat.le_trans HK.out (by decide)) HZS.out HT.out).mono ?_
   rintro e w1 ⟨rfl, hq, hp⟩
   rw [HRB.out]
   have HP := hide (hp HRB.out)
   clear hp
   refine hK.out _ _ ?hs28 (fun hS1 => ?_)
   case hs28 => exact GQ.trans hS0 hq
   clear hK K
   try simp only [ly]
   refine tkJ 9 4 hS1 ?_; simp only [ly]
   refine wpAnyH_done (by kernel_rfl) ?_ _
   have HQ := hide hS1
   go_wp2
   go_ret
   exact ⟨by rw [HRB.out]; rfl, GQ.bel HB.out HQ.out HNW.out HGND.out, HKD.out.gq HBD.out.2.1 HQ.out, fun _ => ⟨_, _, _, _, _, BD.gq HBD.out HQ.out (HP.out.mono (by omega))⟩⟩
 ·go_simp
  first | (refine hK _ _ ?_; clear hK K) | skip
  try simp only [ly]
  refine wpAny_ready (rs := [5, 8]) (by kernel_rfl) (by simp) ?_
  refine AllReady.cons rfl (fun K hK => ?_) (AllReady.cons rfl (fun K hK => ?_) AllReady.nil)
  ·go_simp
   first | (refine hK _ _ ?_; clear hK K) | skip
   try simp only [ly]
   refine wpAny_ready (rs := [8]) (by kernel_rfl) (by simp) ?_
   refine AllReady.cons rfl (fun K hK => ?_) AllReady.nil
   go_simp
   have bq := bel1 x1 (.cells #[.string nm] 9)
   have HE := hide (RS.new encSt_len x1 _ rfl [nm] #[.string nm] rfl 9 (0, 0) 1 rfl (by decide))
   replace HX := hide (HX.out.below bq)
   replace HSN := hide (HSN.out.below bq)
   replace HMM := hide (HMM.out.below bq)
   replace HW := hide (HW.out.below bq)
   replace HXD := hide (HXD.out.below bq)
   replace HKD := hide (HKD.out.next bq)
   replace HB := hide (HB.out.trans (bq.mono HNW.out))
   have hNw := Nat.le_trans HNW.out bq.size
   clear bq z0 d2 HNW
   have HNW := hide hNw
   clear hNw
   generalize x1.alloc (.cells #[.string nm] 9) = x6 at *
   have z0 := HX.out.cell 0 _ rfl
   have d2 := HXD.out.cell 2 _ rfl
   first | (refine hK _ _ ?_; clear hK K) | skip
   try simp only [ly]
   refine wpAny_ready (rs := [9]) (by kernel_rfl) (by simp) ?_
   refine AllReady.cons rfl (fun K hK => ?_) AllReady.nil
   refine append_wh _ _ 25 rfl Tryz.underlying25 Tryz.infoSt rfl (by decide) (by decide) encSt_len encSt_one N _ r.1 [nm] rfl HW.out.1.1 ⟨_, 0, none⟩ 1 1 rfl (by decide) HE.out (by have h9 := HLN.out; simp only [List.length_singleton]; omega) HNW.out ?_
   intro v7 x7 ho hgr hbel hwh
   obtain ⟨p7, c7, hv7, _, _⟩ := ho.open encSt_len
   obtain ⟨n7, hn7⟩ : ∃ n7, (r.1 ++ [nm]).length = n7 := ⟨_, rfl⟩
   rw [hn7] at hv7
   subst hv7
   clear hn7
   have HB7 : Hid (Below N w0 x7) := hbel w0 HB.out
   replace HX := hide (HX.out.grown hgr (OwnR.off HW.out.1.1 HX.out (by decide)))
   replace HXD := hide (HXD.out.grown hgr (OwnR.off HW.out.1.1 HXD.out (by decide)))
   replace HKD := hide (HKD.out.grown HW.out.1.1 (by decide) hgr)
   replace HSN := hide (HSN.out.grown HW.out.1.1 (by decide) hgr)
   replace HMM := hide (HMM.out.grown HW.out.1.1 hgr)
   have HNW7 := hide (Nat.le_trans HNW.out hgr.size)
   replace HW := hide (HW.out.str1 ho hgr hwh)
   clear ho hgr hbel hwh HE z0 d2 HB HNW
   have z0 := HX.out.cell 0 _ rfl
   have y0 := HX.out.free 0
   have d0 := HXD.out.cell 0 _ rfl
   have d2 := HXD.out.cell 2 _ rfl
   change K (Act.put _ (some 18) _) _
   first | (refine hK _ _ ?_; clear hK K) | skip
   try simp only [ly]
   refine takeP 10 19 ?v30 rfl rfl (by kernel_rfl) (by kernel_rfl) (by kernel_rfl) (fun _ _ _ h => h) (by kernel_rfl) ?hy30 ?_
   case hy30 => (intro W; go_simp; try rfl)
   simp only [ly]
   refine takeP 11 20 ?v31 rfl rfl (by kernel_rfl) (by kernel_rfl) (by kernel_rfl) (fun _ _ _ h => h) (by kernel_rfl) ?hy31 ?_
   case hy31 => (intro W; go_simp; try rfl)
   simp only [ly]
   refine takeP 12 21 ?v32 rfl rfl (by kernel_rfl) (by kernel_rfl) (by kernel_rfl) (fun _ _ _ h => h) (by kernel_rfl) ?hy32 ?_
   case hy32 => (intro W; go_simp; try rfl)
   simp only [ly]
   refine wpAny_ready (rs := [13]) (by kernel_rfl) (by simp) ?_
   refine AllReady.cons rfl (fun K hK => ?_) AllReady.nil
   go_simp
   first | (refine hK _ _ ?_; clear hK K) | skip
   try simp only [ly]
   refine wpAny_done (by kernel_rfl) ?_ _
   have HX0 := hide HX.out
   replace HKD := hide (HKD.out.set HX0.out 0 (.slice p7 n7 c7))
   replace HX := hide (HX0.out.set 0 (.slice p7 n7 c7))
   replace HXD : Hid (BX (x7.setCell ⟨gb, 0, none⟩ (.slice p7 n7 c7)) gd #[.int .i64 1, .bool st, .string nm, .string ot, .int .i64 n, .slice p m c, .int .i64 ln] 38) := BX.other HXD.out (Ne.symm HGD.out) 0 (.slice p7 n7 c7)
   replace HSN := hide (SN.set HSN.out (.inr HGB.out) 0 (.slice p7 n7 c7))
   replace HMM := hide (HMM.out.set HGM.out 0 (.slice p7 n7 c7))
   replace HW := hide (RW.set HW.out HX0.out ty_bld 0 (.slice p7 n7 c7))
   have HB : Hid (Below N w0 (x7.setCell ⟨gb, 0, none⟩ (.slice p7 n7 c7))) := HB7.out.setCell (p := ⟨gb, 0, none⟩) HGN.out (.slice p7 n7 c7)
   have HNW : Hid (N ≤ (x7.setCell ⟨gb, 0, none⟩ (.slice p7 n7 c7)).heap.size) := by unfold Hid; simpa [World.setCell] using HNW7.out
   have e5 : (x7.setCell ⟨gb, 0, none⟩ (.slice p7 n7 c7)).cell? ⟨gb, 5, none⟩ = some (.pointer (some ⟨D + 3, 0, none⟩)) := HX.out.cell 5 _ rfl
   have e0 := HXD.out.cell 0 _ rfl
   have e2 := HXD.out.cell 2 _ rfl
   clear z0 y0 d0 d2 HB7 HNW7 HX0
   go_upto_region 8 with fail
   generalize x7.setCell ⟨gb, 0, none⟩ (.slice p7 n7 c7) = u at *
   have HBD : Hid (BD N u gb D M h k ((t1, t2, t3, cl, op), S, G, f) fn (.slice p7 n7 c7) v2 v3 v4 v5 (r.1 ++ [nm], r.2)) := ⟨HX.out, HSN.out, HMM.out, HW.out, HGB.out, HGMD.out, HGMN.out, HNW.out⟩
   have HXU : Hid (SN u.drew D h k ((t1, t2, t3, cl, op), S, G, f)) := HSN.out.below (Below.refl u.heap.size u).drew
   have m5 := e5
   have m0 := e0
   have m2 := e2
   clear e5 e0 e2
   rcases hb : thB1 t1 S nm with _ | _
   ·have HRB := hide hb
    clear hb
    refine wp_region_held_drew (S := fun W => GQ 4 D u W) (by kernel_rfl) ((GQ.refl 4 D u).drew) (fun hS0 => ?_)
    refine tkJ 0 52 hS0 ?_; simp only [ly]
    refine tkJ 1 53 hS0 ?_; simp only [ly]
    refine tkJ 2 54 hS0 ?_; simp only [ly]
    refine tkI 3 55 ?v36 rfl rfl hS0 ?hy36 ?_
    case hy36 => (intro W hW; have e0 := gqcell hW m5 (.inr (by first | exact HGB.out | exact HGDD.out)); have e1 := gqcell hW m0 (.inr (by first | exact HGB.out | exact HGDD.out)); have e2 := gqcell hW m2 (.inr (by first | exact HGB.out | exact HGDD.out)); clear hW; go_simp; try rfl)
    simp only [ly]
    refine tkJ 4 56 hS0 ?_; simp only [ly]
    refine tkI 5 57 ?v38 rfl rfl hS0 ?hy38 ?_
    case hy38 => (intro W hW; have e0 := gqcell hW m5 (.inr (by first | exact HGB.out | exact HGDD.out)); have e1 := gqcell hW m0 (.inr (by first | exact HGB.out | exact HGDD.out)); have e2 := gqcell hW m2 (.inr (by first | exact HGB.out | exact HGDD.out)); clear hW; go_simp; try rfl)
    simp only [ly]
    refine tkJ 6 58 hS0 ?_; simp only [ly]
    refine tkI 7 59 ?v40 rfl rfl hS0 ?hy40 ?_
    case hy40 => (intro W hW; have e0 := gqcell hW m5 (.inr (by first | exact HGB.out | exact HGDD.out)); have e1 := gqcell hW m0 (.inr (by first | exact HGB.out | exact HGDD.out)); have e2 := gqcell hW m2 (.inr (by first | exact HGB.out | exact HGDD.out)); clear hW; go_simp; try rfl)
    simp only [ly]
    refine wpAnyH_ready (rs := [8]) (by kernel_rfl) (by simp) ?_
    refine AllReadyH.cons rfl (fun K hK => ?_) AllReadyH.nil
    go_simp
    go_at_call 46
    refine (thing16_1 D k h t1 t2 t3 cl op S G f nm _ HXU.out (Nat.le_trans HK.out (by decide)) HZS.out HT.out).mono ?_
    rintro e w1 ⟨rfl, hq, hp⟩
    rw [HRB.out]
    clear hp
    refine hK.out _ _ ?hs41 (fun hS1 => ?_)
    case hs41 => exact GQ.trans hS0 hq
    clear hK K
    try simp only [ly]
    refine tkJ 9 4 hS1 ?_; simp only [ly]
    refine wpAnyH_done (by kernel_rfl) ?_ _
    have HQ := hide hS1
    go_wp2
    go_ret
    exact ⟨by rw [HRB.out]; rfl, GQ.bel HB.out HQ.out HNW.out HGND.out, HKD.out.gq HBD.out.2.1 HQ.out, fun hh => by rw [HRB.out] at hh; cases hh⟩
   ·have HRB := hide hb
    clear hb
    refine wp_region_held_drew (S := fun W => GQ 4 D u W) (by kernel_rfl) ((GQ.refl 4 D u).drew) (fun hS0 => ?_)
    refine tkJ 0 52 hS0 ?_; simp only [ly]
    refine tkJ 1 53 hS0 ?_; simp only [ly]
    refine tkJ 2 54 hS0 ?_; simp only [ly]
    refine tkI 3 55 ?v46 rfl rfl hS0 ?hy46 ?_
    case hy46 => (intro W hW; have e0 := gqcell hW m5 (.inr (by first | exact HGB.out | exact HGDD.out)); have e1 := gqcell hW m0 (.inr (by first | exact HGB.out | exact HGDD.out)); have e2 := gqcell hW m2 (.inr (by first | exact HGB.out | exact HGDD.out)); clear hW; go_simp; try rfl)
    simp only [ly]
    refine tkJ 4 56 hS0 ?_; simp only [ly]
    refine tkI 5 57 ?v48 rfl rfl hS0 ?hy48 ?_
    case hy48 => (intro W hW; have e0 := gqcell hW m5 (.inr (by first | exact HGB.out | exact HGDD.out)); have e1 := gqcell hW m0 (.inr (by first | exact HGB.out | exact HGDD.out)); have e2 := gqcell hW m2 (.inr (by first | exact HGB.out | exact HGDD.out)); clear hW; go_simp; try rfl)
    simp only [ly]
    refine tkJ 6 58 hS0 ?_; simp only [ly]
    refine tkI 7 59 ?v50 rfl rfl hS0 ?hy50 ?_
    case hy50 => (intro W hW; have e0 := gqcell hW m5 (.inr (by first | exact HGB.out | exact HGDD.out)); have e1 := gqcell hW m0 (.inr (by first | exact HGB.out | exact HGDD.out)); have e2 := gqcell hW m2 (.inr (by first | exact HGB.out | exact HGDD.out)); clear hW; go_simp; try rfl)
    simp only [ly]
    refine wpAnyH_ready (rs := [8]) (by kernel_rfl) (by simp) ?_
    refine AllReadyH.cons rfl (fun K hK => ?_) AllReadyH.nil
    go_simp
    go_at_call 46
    refine (thing16_1 D k h t1 t2 t3 cl op S G f nm _ HXU.out (Nat.le_trans HK.out (by decide)) HZS.out HT.out).mono ?_
    rintro e w1 ⟨rfl, hq, hp⟩
    rw [HRB.out]
    have HP := hide (hp HRB.out)
    clear hp
    refine hK.out _ _ ?hs51 (fun hS1 => ?_)
    case hs51 => exact GQ.trans hS0 hq
    clear hK K
    try simp only [ly]
    refine tkJ 9 4 hS1 ?_; simp only [ly]
    refine wpAnyH_done (by kernel_rfl) ?_ _
    have HQ := hide hS1
    go_wp2
    go_ret
    exact ⟨by rw [HRB.out]; rfl, GQ.bel HB.out HQ.out HNW.out HGND.out, HKD.out.gq HBD.out.2.1 HQ.out, fun _ => ⟨_, _, _, _, _, BD.gq HBD.out HQ.out (HP.out.mono (by omega))⟩⟩
  ·go_simp
   have bq := bel1 x1 (.cells #[.string nm] 9)
   have HE := hide (RS.new encSt_len x1 _ rfl [nm] #[.string nm] rfl 9 (0, 0) 1 rfl (by decide))
   replace HX := hide (HX.out.below bq)
   replace HSN := hide (HSN.out.below bq)
   replace HMM := hide (HMM.out.below bq)
   replace HW := hide (HW.out.below bq)
   replace HXD := hide (HXD.out.below bq)
   replace HKD := hide (HKD.out.next bq)
   replace HB := hide (HB.out.trans (bq.mono HNW.out))
   have hNw := Nat.le_trans HNW.out bq.size
   clear bq z0 d2 HNW
   have HNW := hide hNw
   clear hNw
   generalize x1.alloc (.cells #[.string nm] 9) = x6 at *
   have z0 := HX.out.cell 0 _ rfl
   have d2 := HXD.out.cell 2 _ rfl
   first | (refine hK _ _ ?_; clear hK K) | skip
   try simp only [ly]
   refine wpAny_ready (rs := [5]) (by kernel_rfl) (by simp) ?_
   refine AllReady.cons rfl (fun K hK => ?_) AllReady.nil
   go_simp
   first | (refine hK _ _ ?_; clear hK K) | skip
   try simp only [ly]
   refine wpAny_ready (rs := [9]) (by kernel_rfl) (by simp) ?_
   refine AllReady.cons rfl (fun K hK => ?_) AllReady.nil
   refine append_wh _ _ 25 rfl Tryz.underlying25 Tryz.infoSt rfl (by decide) (by decide) encSt_len encSt_one N _ r.1 [nm] rfl HW.out.1.1 ⟨_, 0, none⟩ 1 1 rfl (by decide) HE.out (by have h9 := HLN.out; simp only [List.length_singleton]; omega) HNW.out ?_
   intro v7 x7 ho hgr hbel hwh
   obtain ⟨p7, c7, hv7, _, _⟩ := ho.open encSt_len
   obtain ⟨n7, hn7⟩ : ∃ n7, (r.1 ++ [nm]).length = n7 := ⟨_, rfl⟩
   rw [hn7] at hv7
   subst hv7
   clear hn7
   have HB7 : Hid (Below N w0 x7) := hbel w0 HB.out
   replace HX := hide (HX.out.grown hgr (OwnR.off HW.out.1.1 HX.out (by decide)))
   replace HXD := hide (HXD.out.grown hgr (OwnR.off HW.out.1.1 HXD.out (by decide)))
   replace HKD := hide (HKD.out.grown HW.out.1.1 (by decide) hgr)
   replace HSN := hide (HSN.out.grown HW.out.1.1 (by decide) hgr)
   replace HMM := hide (HMM.out.grown HW.out.1.1 hgr)
   have HNW7 := hide (Nat.le_trans HNW.out hgr.size)
   replace HW := hide (HW.out.str1 ho hgr hwh)
   clear ho hgr hbel hwh HE z0 d2 HB HNW
   have z0 := HX.out.cell 0 _ rfl
   have y0 := HX.out.free 0
   have d0 := HXD.out.cell 0 _ rfl
   have d2 := HXD.out.cell 2 _ rfl
   change K (Act.put _ (some 18) _) _
   first | (refine hK _ _ ?_; clear hK K) | skip
   try simp only [ly]
   refine takeP 10 19 ?v53 rfl rfl (by kernel_rfl) (by kernel_rfl) (by kernel_rfl) (fun _ _ _ h => h) (by kernel_rfl) ?hy53 ?_
   case hy53 => (intro W; go_simp; try rfl)
   simp only [ly]
   refine takeP 11 20 ?v54 rfl rfl (by kernel_rfl) (by kernel_rfl) (by kernel_rfl) (fun _ _ _ h => h) (by kernel_rfl) ?hy54 ?_
   case hy54 => (intro W; go_simp; try rfl)
   simp only [ly]
   refine takeP 12 21 ?v55 rfl rfl (by kernel_rfl) (by kernel_rfl) (by kernel_rfl) (fun _ _ _ h => h) (by kernel_rfl) ?hy55 ?_
   case hy55 => (intro W; go_simp; try rfl)
   simp only [ly]
   refine wpAny_ready (rs := [13]) (by kernel_rfl) (by simp) ?_
   refine AllReady.cons rfl (fun K hK => ?_) AllReady.nil
   go_simp
   first | (refine hK _ _ ?_; clear hK K) | skip
   try simp only [ly]
   refine wpAny_done (by kernel_rfl) ?_ _
   have HX0 := hide HX.out
   replace HKD := hide (HKD.out.set HX0.out 0 (.slice p7 n7 c7))
   replace HX := hide (HX0.out.set 0 (.slice p7 n7 c7))
   replace HXD : Hid (BX (x7.setCell ⟨gb, 0, none⟩ (.slice p7 n7 c7)) gd #[.int .i64 1, .bool st, .string nm, .string ot, .int .i64 n, .slice p m c, .int .i64 ln] 38) := BX.other HXD.out (Ne.symm HGD.out) 0 (.slice p7 n7 c7)
   replace HSN := hide (SN.set HSN.out (.inr HGB.out) 0 (.slice p7 n7 c7))
   replace HMM := hide (HMM.out.set HGM.out 0 (.slice p7 n7 c7))
   replace HW := hide (RW.set HW.out HX0.out ty_bld 0 (.slice p7 n7 c7))
   have HB : Hid (Below N w0 (x7.setCell ⟨gb, 0, none⟩ (.slice p7 n7 c7))) := HB7.out.setCell (p := ⟨gb, 0, none⟩) HGN.out (.slice p7 n7 c7)
   have HNW : Hid (N ≤ (x7.setCell ⟨gb, 0, none⟩ (.slice p7 n7 c7)).heap.size) := by unfold Hid; simpa [World.setCell] using HNW7.out
   have e5 : (x7.setCell ⟨gb, 0, none⟩ (.slice p7 n7 c7)).cell? ⟨gb, 5, none⟩ = some (.pointer (some ⟨D + 3, 0, none⟩)) := HX.out.cell 5 _ rfl
   have e0 := HXD.out.cell 0 _ rfl
   have e2 := HXD.out.cell 2 _ rfl
   clear z0 y0 d0 d2 HB7 HNW7 HX0
   go_upto_region 8 with fail
   generalize x7.setCell ⟨gb, 0, none⟩ (.slice p7 n7 c7) = u at *
   have HBD : Hid (BD N u gb D M h k ((t1, t2, t3, cl, op), S, G, f) fn (.slice p7 n7 c7) v2 v3 v4 v5 (r.1 ++ [nm], r.2)) := ⟨HX.out, HSN.out, HMM.out, HW.out, HGB.out, HGMD.out, HGMN.out, HNW.out⟩
   have HXU : Hid (SN u.drew D h k ((t1, t2, t3, cl, op), S, G, f)) := HSN.out.below (Below.refl u.heap.size u).drew
   have m5 := e5
   have m0 := e0
   have m2 := e2
   clear e5 e0 e2
   rcases hb : thB1 t1 S nm with _ | _
   ·have HRB := hide hb
    clear hb
    refine wp_region_held_drew (S := fun W => GQ 4 D u W) (by kernel_rfl) ((GQ.refl 4 D u).drew) (fun hS0 => ?_)
    refine tkJ 0 52 hS0 ?_; simp only [ly]
    refine tkJ 1 53 hS0 ?_; simp only [ly]
    refine tkJ 2 54 hS0 ?_; simp only [ly]
    refine tkI 3 55 ?v59 rfl rfl hS0 ?hy59 ?_
    case hy59 => (intro W hW; have e0 := gqcell hW m5 (.inr (by first | exact HGB.out | exact HGDD.out)); have e1 := gqcell hW m0 (.inr (by first | exact HGB.out | exact HGDD.out)); have e2 := gqcell hW m2 (.inr (by first | exact HGB.out | exact HGDD.out)); clear hW; go_simp; try rfl)
    simp only [ly]
    refine tkJ 4 56 hS0 ?_; simp only [ly]
    refine tkI 5 57 ?v61 rfl rfl hS0 ?hy61 ?_
    case hy61 => (intro W hW; have e0 := gqcell hW m5 (.inr (by first | exact HGB.out | exact HGDD.out)); have e1 := gqcell hW m0 (.inr (by first | exact HGB.out | exact HGDD.out)); have e2 := gqcell hW m2 (.inr (by first | exact HGB.out | exact HGDD.out)); clear hW; go_simp; try rfl)
    simp only [ly]
    refine tkJ 6 58 hS0 ?_; simp only [ly]
    refine tkI 7 59 ?v63 rfl rfl hS0 ?hy63 ?_
    case hy63 => (intro W hW; have e0 := gqcell hW m5 (.inr (by first | exact HGB.out | exact HGDD.out)); have e1 := gqcell hW m0 (.inr (by first | exact HGB.out | exact HGDD.out)); have e2 := gqcell hW m2 (.inr (by first | exact HGB.out | exact HGDD.out)); clear hW; go_simp; try rfl)
    simp only [ly]
    refine wpAnyH_ready (rs := [8]) (by kernel_rfl) (by simp) ?_
    refine AllReadyH.cons rfl (fun K hK => ?_) AllReadyH.nil
    go_simp
    go_at_call 46
    refine (thing16_1 D k h t1 t2 t3 cl op S G f nm _ HXU.out (Nat.le_trans HK.out (by decide)) HZS.out HT.out).mono ?_
    rintro e w1 ⟨rfl, hq, hp⟩
    rw [HRB.out]
    clear hp
    refine hK.out _ _ ?hs64 (fun hS1 => ?_)
    case hs64 => exact GQ.trans hS0 hq
    clear hK K
    try simp only [ly]
    refine tkJ 9 4 hS1 ?_; simp only [ly]
    refine wpAnyH_done (by kernel_rfl) ?_ _
    have HQ := hide hS1
    go_wp2
    go_ret
    exact ⟨by rw [HRB.out]; rfl, GQ.bel HB.out HQ.out HNW.out HGND.out, HKD.out.gq HBD.out.2.1 HQ.out, fun hh => by rw [HRB.out] at hh; cases hh⟩
   ·have HRB := hide hb
    clear hb
    refine wp_region_held_drew (S := fun W => GQ 4 D u W) (by kernel_rfl) ((GQ.refl 4 D u).drew) (fun hS0 => ?_)
    refine tkJ 0 52 hS0 ?_; simp only [ly]
    refine tkJ 1 53 hS0 ?_; simp only [ly]
    refine tkJ 2 54 hS0 ?_; simp only [ly]
    refine tkI 3 55 ?v69 rfl rfl hS0 ?hy69 ?_
    case hy69 => (intro W hW; have e0 := gqcell hW m5 (.inr (by first | exact HGB.out | exact HGDD.out)); have e1 := gqcell hW m0 (.inr (by first | exact HGB.out | exact HGDD.out)); have e2 := gqcell hW m2 (.inr (by first | exact HGB.out | exact HGDD.out)); clear hW; go_simp; try rfl)
    simp only [ly]
    refine tkJ 4 56 hS0 ?_; simp only [ly]
    refine tkI 5 57 ?v71 rfl rfl hS0 ?hy71 ?_
    case hy71 => (intro W hW; have e0 := gqcell hW m5 (.inr (by first | exact HGB.out | exact HGDD.out)); have e1 := gqcell hW m0 (.inr (by first | exact HGB.out | exact HGDD.out)); have e2 := gqcell hW m2 (.inr (by first | exact HGB.out | exact HGDD.out)); clear hW; go_simp; try rfl)
    simp only [ly]
    refine tkJ 6 58 hS0 ?_; simp only [ly]
    refine tkI 7 59 ?v73 rfl rfl hS0 ?hy73 ?_
    case hy73 => (intro W hW; have e0 := gqcell hW m5 (.inr (by first | exact HGB.out | exact HGDD.out)); have e1 := gqcell hW m0 (.inr (by first | exact HGB.out | exact HGDD.out)); have e2 := gqcell hW m2 (.inr (by first | exact HGB.out | exact HGDD.out)); clear hW; go_simp; try rfl)
    simp only [ly]
    refine wpAnyH_ready (rs := [8]) (by kernel_rfl) (by simp) ?_
    refine AllReadyH.cons rfl (fun K hK => ?_) AllReadyH.nil
    go_simp
    go_at_call 46
    refine (thing16_1 D k h t1 t2 t3 cl op S G f nm _ HXU.out (Nat.le_trans HK.out (by decide)) HZS.out HT.out).mono ?_
    rintro e w1 ⟨rfl, hq, hp⟩
    rw [HRB.out]
    have HP := hide (hp HRB.out)
    clear hp
    refine hK.out _ _ ?hs74 (fun hS1 => ?_)
    case hs74 => exact GQ.trans hS0 hq
    clear hK K
    try simp only [ly]
    refine tkJ 9 4 hS1 ?_; simp only [ly]
    refine wpAnyH_done (by kernel_rfl) ?_ _
    have HQ := hide hS1
    go_wp2
    go_ret
    exact ⟨by rw [HRB.out]; rfl, GQ.bel HB.out HQ.out HNW.out HGND.out, HKD.out.gq HBD.out.2.1 HQ.out, fun _ => ⟨_, _, _, _, _, BD.gq HBD.out HQ.out (HP.out.mono (by omega))⟩⟩
set_option maxHeartbeats 8000000 in
set_option maxRecDepth 8000 in
theorem bthing16_2 (N gb D M k : Nat) (h : Int × Int × Int) (t1 t2 t3 cl op : Int) (S : List ByteArray) (G : List Int) (f : Int → Int → Int) (fn : Int → ByteArray → Option Int) (v1 v2 v3 v4 v5 : Value) (r : Ru) (st : Bool) (nm ot : ByteArray) (n ln : Int) (p : Option Addr) (m c : Nat) (w0 w : World) (hD : BD N w gb D M h k ((t1, t2, t3, cl, op), S, G, f) fn v1 v2 v3 v4 v5 r) (hB : Below N w0 w) (hk : k ≤ 9000) (hs : nm.size ≤ maxLen) (ht : 0 ≤ t2 ∧ t2 ≤ 1000) (hl : r.2.1.length ≤ 1000) :
  Calls Tryz.prog 37 #[.pointer (some ⟨gb, 0, none⟩), .agg #[.int .i64 2, .bool st, .string nm, .string ot, .int .i64 n, .slice p m c, .int .i64 ln]] w fun e w' => e = .returned (.bool (thB2 t2 S nm)) ∧ Below N w0 w' ∧ KpD w w' ∧ (thB2 t2 S nm = true → ∃ v1 v2 v3 v4 v5, BD N w' gb D M h (k + 20) ((t1, t2 + 1, t3, cl, op), S ++ [nm], G, f) fn v1 v2 v3 v4 v5 (r.1, r.2.1 ++ [nm], r.2.2)) := by
 obtain ⟨hx, hsn, hmm, hw, hgb, hgmd, hgmn, hnw⟩ := hD
 have HK := hide hk
 have HZS := hide hs
 have HT := hide ht
 have HLN := hide hl
 have HGB := hide hgb
 have HGMD := hide hgmd
 have HGMN := hide hgmn
 have HGND : Hid (N ≤ D) := by unfold Hid; omega
 have HGN : Hid (N ≤ gb) := by unfold Hid; omega
 have HGM : Hid (gb ≠ M) := by unfold Hid; omega
 have hgw := hx.size
 have HNN := hide (Nat.le_refl N)
 have bq := bel1 w (.cells #[.int .i64 2, .bool st, .string nm, .string ot, .int .i64 n, .slice p m c, .int .i64 ln] 38)
 have HX := hide (hx.below bq)
 have HSN := hide (hsn.below bq)
 have HMM := hide (hmm.below bq)
 have HW := hide (hw.below bq)
 have HXD : Hid (BX (w.alloc (.cells #[.int .i64 2, .bool st, .string nm, .string ot, .int .i64 n, .slice p m c, .int .i64 ln] 38)) w.heap.size #[.int .i64 2, .bool st, .string nm, .string ot, .int .i64 n, .slice p m c, .int .i64 ln] 38) := BX.new w _ rfl _ _
 have HB : Hid (Below N w0 (w.alloc (.cells #[.int .i64 2, .bool st, .string nm, .string ot, .int .i64 n, .slice p m c, .int .i64 ln] 38))) := hB.alloc hnw _
 have HNW : Hid (N ≤ (w.alloc (.cells #[.int .i64 2, .bool st, .string nm, .string ot, .int .i64 n, .slice p m c, .int .i64 ln] 38)).heap.size) := Nat.le_trans hnw bq.size
 have HGD : Hid (w.heap.size ≠ gb) := by unfold Hid; omega
 have HKD : Hid (KpD w (w.alloc (.cells #[.int .i64 2, .bool st, .string nm, .string ot, .int .i64 n, .slice p m c, .int .i64 ln] 38))) := fun g C q => q.below bq
 have HGDD : Hid (D + 4 ≤ w.heap.size) := by unfold Hid; omega
 clear hx hsn hmm hw hgb hgmd hgmn hnw hk hs ht hl hB bq hgw
 go_enter Tryz.func37, Tryz.ntmps37
 go_upto_region 5 with fail
 generalize w.alloc (.cells #[.int .i64 2, .bool st, .string nm, .string ot, .int .i64 n, .slice p m c, .int .i64 ln] 38) = u0 at *
 generalize w.heap.size = gd at *
 replace HX := hide (HX.out.below (Below.refl _ u0).drew)
 replace HSN := hide (HSN.out.below (Below.refl _ u0).drew)
 replace HMM := hide (HMM.out.below (Below.refl _ u0).drew)
 replace HW := hide (HW.out.below (Below.refl _ u0).drew)
 replace HXD := hide (HXD.out.below (Below.refl _ u0).drew)
 replace HKD := hide (HKD.out.next (Below.refl _ u0).drew)
 replace HB := hide HB.out.drew
 replace HNW : Hid (N ≤ u0.drew.heap.size) := HNW
 refine wp_region_any (by kernel_rfl) ?_
 change wpAny _ _ _ _ _ _ _ (World.drew _)
 generalize u0.drew = x1 at *
 have z0 := HX.out.cell 1 _ rfl
 have d2 := HXD.out.cell 2 _ rfl
 refine takeP 0 24 ?v76 rfl rfl (by kernel_rfl) (by kernel_rfl) (by kernel_rfl) (fun _ _ _ h => h) (by kernel_rfl) ?hy76 ?_
 case hy76 => (intro W; go_simp; try rfl)
 simp only [ly]
 refine takeP 1 25 ?v77 rfl rfl (by kernel_rfl) (by kernel_rfl) (by kernel_rfl) (fun _ _ _ h => h) (by kernel_rfl) ?hy77 ?_
 case hy77 => (intro W; go_simp; try rfl)
 simp only [ly]
 refine takeP 2 26 ?v78 rfl rfl (by kernel_rfl) (by kernel_rfl) (by kernel_rfl) (fun _ _ _ h => h) (by kernel_rfl) ?hy78 ?_
 case hy78 => (intro W; go_simp; try rfl)
 simp only [ly]
 refine takeP 3 27 ?v79 rfl rfl (by kernel_rfl) (by kernel_rfl) (by kernel_rfl) (fun _ _ _ h => h) (by kernel_rfl) ?hy79 ?_
 case hy79 => (intro W; go_simp; try rfl)
 simp only [ly]
 refine takeP 4 28 ?v80 rfl rfl (by kernel_rfl) (by kernel_rfl) (by kernel_rfl) (fun _ _ _ h => h) (by kernel_rfl) ?hy80 ?_
 case hy80 => (intro W; go_simp; try rfl)
 simp only [ly]
 refine takeP 6 30 ?v81 rfl rfl (by kernel_rfl) (by kernel_rfl) (by kernel_rfl) (fun _ _ _ h => h) (by kernel_rfl) ?hy81 ?_
 case hy81 => (intro W; go_simp; try rfl)
 simp only [ly]
 refine wpAny_ready (rs := [5, 7]) (by kernel_rfl) (by simp) ?_
 refine AllReady.cons rfl (fun K hK => ?_) (AllReady.cons rfl (fun K hK => ?_) AllReady.nil)
 ·go_simp
  first | (refine hK _ _ ?_; clear hK K) | skip
  try simp only [ly]
  refine wpAny_ready (rs := [7]) (by kernel_rfl) (by simp) ?_
  refine AllReady.cons rfl (fun K hK => ?_) AllReady.nil
  go_simp
  first | (refine hK _ _ ?_; clear hK K) | skip
  try simp only [ly]
  refine wpAny_ready (rs := [8]) (by kernel_rfl) (by simp) ?_
  refine AllReady.cons rfl (fun K hK => ?_) AllReady.nil
  go_simp
  have bq := bel1 x1 (.cells #[.string nm] 9)
  have HE := hide (RS.new encSt_len x1 _ rfl [nm] #[.string nm] rfl 9 (0, 0) 1 rfl (by decide))
  replace HX := hide (HX.out.below bq)
  replace HSN := hide (HSN.out.below bq)
  replace HMM := hide (HMM.out.below bq)
  replace HW := hide (HW.out.below bq)
  replace HXD := hide (HXD.out.below bq)
  replace HKD := hide (HKD.out.next bq)
  replace HB := hide (HB.out.trans (bq.mono HNW.out))
  have hNw := Nat.le_trans HNW.out bq.size
  clear bq z0 d2 HNW
  have HNW := hide hNw
  clear hNw
  generalize x1.alloc (.cells #[.string nm] 9) = x6 at *
  have z0 := HX.out.cell 1 _ rfl
  have d2 := HXD.out.cell 2 _ rfl
  first | (refine hK _ _ ?_; clear hK K) | skip
  try simp only [ly]
  refine wpAny_ready (rs := [9]) (by kernel_rfl) (by simp) ?_
  refine AllReady.cons rfl (fun K hK => ?_) AllReady.nil
  refine append_wh _ _ 25 rfl Tryz.underlying25 Tryz.infoSt rfl (by decide) (by decide) encSt_len encSt_one N _ r.2.1 [nm] rfl HW.out.1.2.1 ⟨_, 0, none⟩ 1 1 rfl (by decide) HE.out (by have h9 := HLN.out; simp only [List.length_singleton]; omega) HNW.out ?_
  intro v7 x7 ho hgr hbel hwh
  obtain ⟨p7, c7, hv7, _, _⟩ := ho.open encSt_len
  obtain ⟨n7, hn7⟩ : ∃ n7, (r.2.1 ++ [nm]).length = n7 := ⟨_, rfl⟩
  rw [hn7] at hv7
  subst hv7
  clear hn7
  have HB7 : Hid (Below N w0 x7) := hbel w0 HB.out
  replace HX := hide (HX.out.grown hgr (OwnR.off HW.out.1.2.1 HX.out (by decide)))
  replace HXD := hide (HXD.out.grown hgr (OwnR.off HW.out.1.2.1 HXD.out (by decide)))
  replace HKD := hide (HKD.out.grown HW.out.1.2.1 (by decide) hgr)
  replace HSN := hide (HSN.out.grown HW.out.1.2.1 (by decide) hgr)
  replace HMM := hide (HMM.out.grown HW.out.1.2.1 hgr)
  have HNW7 := hide (Nat.le_trans HNW.out hgr.size)
  replace HW := hide (HW.out.str2 ho hgr hwh)
  clear ho hgr hbel hwh HE z0 d2 HB HNW
  have z0 := HX.out.cell 1 _ rfl
  have y0 := HX.out.free 1
  have d0 := HXD.out.cell 0 _ rfl
  have d2 := HXD.out.cell 2 _ rfl
  change K (Act.put _ (some 33) _) _
  first | (refine hK _ _ ?_; clear hK K) | skip
  try simp only [ly]
  refine takeP 10 34 ?v82 rfl rfl (by kernel_rfl) (by kernel_rfl) (by kernel_rfl) (fun _ _ _ h => h) (by kernel_rfl) ?hy82 ?_
  case hy82 => (intro W; go_simp; try rfl)
  simp only [ly]
  refine takeP 11 35 ?v83 rfl rfl (by kernel_rfl) (by kernel_rfl) (by kernel_rfl) (fun _ _ _ h => h) (by kernel_rfl) ?hy83 ?_
  case hy83 => (intro W; go_simp; try rfl)
  simp only [ly]
  refine takeP 12 36 ?v84 rfl rfl (by kernel_rfl) (by kernel_rfl) (by kernel_rfl) (fun _ _ _ h => h) (by kernel_rfl) ?hy84 ?_
  case hy84 => (intro W; go_simp; try rfl)
  simp only [ly]
  refine wpAny_ready (rs := [13]) (by kernel_rfl) (by simp) ?_
  refine AllReady.cons rfl (fun K hK => ?_) AllReady.nil
  go_simp
  first | (refine hK _ _ ?_; clear hK K) | skip
  try simp only [ly]
  refine wpAny_done (by kernel_rfl) ?_ _
  have HX0 := hide HX.out
  replace HKD := hide (HKD.out.set HX0.out 1 (.slice p7 n7 c7))
  replace HX := hide (HX0.out.set 1 (.slice p7 n7 c7))
  replace HXD : Hid (BX (x7.setCell ⟨gb, 1, none⟩ (.slice p7 n7 c7)) gd #[.int .i64 2, .bool st, .string nm, .string ot, .int .i64 n, .slice p m c, .int .i64 ln] 38) := BX.other HXD.out (Ne.symm HGD.out) 1 (.slice p7 n7 c7)
  replace HSN := hide (SN.set HSN.out (.inr HGB.out) 1 (.slice p7 n7 c7))
  replace HMM := hide (HMM.out.set HGM.out 1 (.slice p7 n7 c7))
  replace HW := hide (RW.set HW.out HX0.out ty_bld 1 (.slice p7 n7 c7))
  have HB : Hid (Below N w0 (x7.setCell ⟨gb, 1, none⟩ (.slice p7 n7 c7))) := HB7.out.setCell (p := ⟨gb, 1, none⟩) HGN.out (.slice p7 n7 c7)
  have HNW : Hid (N ≤ (x7.setCell ⟨gb, 1, none⟩ (.slice p7 n7 c7)).heap.size) := by unfold Hid; simpa [World.setCell] using HNW7.out
  have e5 : (x7.setCell ⟨gb, 1, none⟩ (.slice p7 n7 c7)).cell? ⟨gb, 5, none⟩ = some (.pointer (some ⟨D + 3, 0, none⟩)) := HX.out.cell 5 _ rfl
  have e0 := HXD.out.cell 0 _ rfl
  have e2 := HXD.out.cell 2 _ rfl
  clear z0 y0 d0 d2 HB7 HNW7 HX0
  go_upto_region 8 with fail
  generalize x7.setCell ⟨gb, 1, none⟩ (.slice p7 n7 c7) = u at *
  have HBD : Hid (BD N u gb D M h k ((t1, t2, t3, cl, op), S, G, f) fn v1 (.slice p7 n7 c7) v3 v4 v5 (r.1, r.2.1 ++ [nm], r.2.2)) := ⟨HX.out, HSN.out, HMM.out, HW.out, HGB.out, HGMD.out, HGMN.out, HNW.out⟩
  have HXU : Hid (SN u.drew D h k ((t1, t2, t3, cl, op), S, G, f)) := HSN.out.below (Below.refl u.heap.size u).drew
  have m5 := e5
  have m0 := e0
  have m2 := e2
  clear e5 e0 e2
  rcases hb : thB2 t2 S nm with _ | _
  ·have HRB := hide hb
   clear hb
   refine wp_region_held_drew (S := fun W => GQ 4 D u W) (by kernel_rfl) ((GQ.refl 4 D u).drew) (fun hS0 => ?_)
   refine tkJ 0 52 hS0 ?_; simp only [ly]
   refine tkJ 1 53 hS0 ?_; simp only [ly]
   refine tkJ 2 54 hS0 ?_; simp only [ly]
   refine tkI 3 55 ?v88 rfl rfl hS0 ?hy88 ?_
   case hy88 => (intro W hW; have e0 := gqcell hW m5 (.inr (by first | exact HGB.out | exact HGDD.out)); have e1 := gqcell hW m0 (.inr (by first | exact HGB.out | exact HGDD.out)); have e2 := gqcell hW m2 (.inr (by first | exact HGB.out | exact HGDD.out)); clear hW; go_simp; try rfl)
   simp only [ly]
   refine tkJ 4 56 hS0 ?_; simp only [ly]
   refine tkI 5 57 ?v90 rfl rfl hS0 ?hy90 ?_
   case hy90 => (intro W hW; have e0 := gqcell hW m5 (.inr (by first | exact HGB.out | exact HGDD.out)); have e1 := gqcell hW m0 (.inr (by first | exact HGB.out | exact HGDD.out)); have e2 := gqcell hW m2 (.inr (by first | exact HGB.out | exact HGDD.out)); clear hW; go_simp; try rfl)
   simp only [ly]
   refine tkJ 6 58 hS0 ?_; simp only [ly]
   refine tkI 7 59 ?v92 rfl rfl hS0 ?hy92 ?_
   case hy92 => (intro W hW; have e0 := gqcell hW m5 (.inr (by first | exact HGB.out | exact HGDD.out)); have e1 := gqcell hW m0 (.inr (by first | exact HGB.out | exact HGDD.out)); have e2 := gqcell hW m2 (.inr (by first | exact HGB.out | exact HGDD.out)); clear hW; go_simp; try rfl)
   simp only [ly]
   refine wpAnyH_ready (rs := [8]) (by kernel_rfl) (by simp) ?_
   refine AllReadyH.cons rfl (fun K hK => ?_) AllReadyH.nil
   go_simp
   go_at_call 46
   refine (thing16_2 D k h t1 t2 t3 cl op S G f nm _ HXU.out (Nat.le_trans HK.out (by decide)) HZS.out HT.out).mono ?_
   rintro e w1 ⟨rfl, hq, hp⟩
   rw [HRB.out]
   clear hp
   refine hK.out _ _ ?hs93 (fun hS1 => ?_)
   case hs93 => exact GQ.trans hS0 hq
   clear hK K
   try simp only [ly]
   refine tkJ 9 4 hS1 ?_; simp only [ly]
   refine wpAnyH_done (by kernel_rfl) ?_ _
   have HQ := hide hS1
   go_wp2
   go_ret
   exact ⟨by rw [HRB.out]; rfl, GQ.bel HB.out HQ.out HNW.out HGND.out, HKD.out.gq HBD.out.2.1 HQ.out, fun hh => by rw [HRB.out] at hh; cases hh⟩
  ·have HRB := hide hb
   clear hb
   refine wp_region_held_drew (S := fun W => GQ 4 D u W) (by kernel_rfl) ((GQ.refl 4 D u).drew) (fun hS0 => ?_)
   refine tkJ 0 52 hS0 ?_; simp only [ly]
   refine tkJ 1 53 hS0 ?_; simp only [ly]
   refine tkJ 2 54 hS0 ?_; simp only [ly]
   refine tkI 3 55 ?v98 rfl rfl hS0 ?hy98 ?_
   case hy98 => (intro W hW; have e0 := gqcell hW m5 (.inr (by first | exact HGB.out | exact HGDD.out)); have e1 := gqcell hW m0 (.inr (by first | exact HGB.out | exact HGDD.out)); have e2 := gqcell hW m2 (.inr (by first | exact HGB.out | exact HGDD.out)); clear hW; go_simp; try rfl)
   simp only [ly]
   refine tkJ 4 56 hS0 ?_; simp only [ly]
   refine tkI 5 57 ?v100 rfl rfl hS0 ?hy100 ?_
   case hy100 => (intro W hW; have e0 := gqcell hW m5 (.inr (by first | exact HGB.out | exact HGDD.out)); have e1 := gqcell hW m0 (.inr (by first | exact HGB.out | exact HGDD.out)); have e2 := gqcell hW m2 (.inr (by first | exact HGB.out | exact HGDD.out)); clear hW; go_simp; try rfl)
   simp only [ly]
   refine tkJ 6 58 hS0 ?_; simp only [ly]
   refine tkI 7 59 ?v102 rfl rfl hS0 ?hy102 ?_
   case hy102 => (intro W hW; have e0 := gqcell hW m5 (.inr (by first | exact HGB.out | exact HGDD.out)); have e1 := gqcell hW m0 (.inr (by first | exact HGB.out | exact HGDD.out)); have e2 := gqcell hW m2 (.inr (by first | exact HGB.out | exact HGDD.out)); clear hW; go_simp; try rfl)
   simp only [ly]
   refine wpAnyH_ready (rs := [8]) (by kernel_rfl) (by simp) ?_
   refine AllReadyH.cons rfl (fun K hK => ?_) AllReadyH.nil
   go_simp
   go_at_call 46
   refine (thing16_2 D k h t1 t2 t3 cl op S G f nm _ HXU.out (Nat.le_trans HK.out (by decide)) HZS.out HT.out).mono ?_
   rintro e w1 ⟨rfl, hq, hp⟩
   rw [HRB.out]
   have HP := hide (hp HRB.out)
   clear hp
   refine hK.out _ _ ?hs103 (fun hS1 => ?_)
   case hs103 => exact GQ.trans hS0 hq
   clear hK K
   try simp only [ly]
   refine tkJ 9 4 hS1 ?_; simp only [ly]
   refine wpAnyH_done (by kernel_rfl) ?_ _
   have HQ := hide hS1
   go_wp2
   go_ret
   exact ⟨by rw [HRB.out]; rfl, GQ.bel HB.out HQ.out HNW.out HGND.out, HKD.out.gq HBD.out.2.1 HQ.out, fun _ => ⟨_, _, _, _, _, BD.gq HBD.out HQ.out (HP.out.mono (by omega))⟩⟩
 ·go_simp
  first | (refine hK _ _ ?_; clear hK K) | skip
  try simp only [ly]
  refine wpAny_ready (rs := [5, 8]) (by kernel_rfl) (by simp) ?_
  refine AllReady.cons rfl (fun K hK => ?_) (AllReady.cons rfl (fun K hK => ?_) AllReady.nil)
  ·go_simp
   first | (refine hK _ _ ?_; clear hK K) | skip
   try simp only [ly]
   refine wpAny_ready (rs := [8]) (by kernel_rfl) (by simp) ?_
   refine AllReady.cons rfl (fun K hK => ?_) AllReady.nil
   go_simp
   have bq := bel1 x1 (.cells #[.string nm] 9)
   have HE := hide (RS.new encSt_len x1 _ rfl [nm] #[.string nm] rfl 9 (0, 0) 1 rfl (by decide))
   replace HX := hide (HX.out.below bq)
   replace HSN := hide (HSN.out.below bq)
   replace HMM := hide (HMM.out.below bq)
   replace HW := hide (HW.out.below bq)
   replace HXD := hide (HXD.out.below bq)
   replace HKD := hide (HKD.out.next bq)
   replace HB := hide (HB.out.trans (bq.mono HNW.out))
   have hNw := Nat.le_trans HNW.out bq.size
   clear bq z0 d2 HNW
   have HNW := hide hNw
   clear hNw
   generalize x1.alloc (.cells #[.string nm] 9) = x6 at *
   have z0 := HX.out.cell 1 _ rfl
   have d2 := HXD.out.cell 2 _ rfl
   first | (refine hK _ _ ?_; clear hK K) | skip
   try simp only [ly]
   refine wpAny_ready (rs := [9]) (by kernel_rfl) (by simp) ?_
   refine AllReady.cons rfl (fun K hK => ?_) AllReady.nil
   refine append_wh _ _ 25 rfl Tryz.underlying25 Tryz.infoSt rfl (by decide) (by decide) encSt_len encSt_one N _ r.2.1 [nm] rfl HW.out.1.2.1 ⟨_, 0, none⟩ 1 1 rfl (by decide) HE.out (by have h9 := HLN.out; simp only [List.length_singleton]; omega) HNW.out ?_
   intro v7 x7 ho hgr hbel hwh
   obtain ⟨p7, c7, hv7, _, _⟩ := ho.open encSt_len
   obtain ⟨n7, hn7⟩ : ∃ n7, (r.2.1 ++ [nm]).length = n7 := ⟨_, rfl⟩
   rw [hn7] at hv7
   subst hv7
   clear hn7
   have HB7 : Hid (Below N w0 x7) := hbel w0 HB.out
   replace HX := hide (HX.out.grown hgr (OwnR.off HW.out.1.2.1 HX.out (by decide)))
   replace HXD := hide (HXD.out.grown hgr (OwnR.off HW.out.1.2.1 HXD.out (by decide)))
   replace HKD := hide (HKD.out.grown HW.out.1.2.1 (by decide) hgr)
   replace HSN := hide (HSN.out.grown HW.out.1.2.1 (by decide) hgr)
   replace HMM := hide (HMM.out.grown HW.out.1.2.1 hgr)
   have HNW7 := hide (Nat.le_trans HNW.out hgr.size)
   replace HW := hide (HW.out.str2 ho hgr hwh)
   clear ho hgr hbel hwh HE z0 d2 HB HNW
   have z0 := HX.out.cell 1 _ rfl
   have y0 := HX.out.free 1
   have d0 := HXD.out.cell 0 _ rfl
   have d2 := HXD.out.cell 2 _ rfl
   change K (Act.put _ (some 33) _) _
   first | (refine hK _ _ ?_; clear hK K) | skip
   try simp only [ly]
   refine takeP 10 34 ?v105 rfl rfl (by kernel_rfl) (by kernel_rfl) (by kernel_rfl) (fun _ _ _ h => h) (by kernel_rfl) ?hy105 ?_
   case hy105 => (intro W; go_simp; try rfl)
   simp only [ly]
   refine takeP 11 35 ?v106 rfl rfl (by kernel_rfl) (by kernel_rfl) (by kernel_rfl) (fun _ _ _ h => h) (by kernel_rfl) ?hy106 ?_
   case hy106 => (intro W; go_simp; try rfl)
   simp only [ly]
   refine takeP 12 36 ?v107 rfl rfl (by kernel_rfl) (by kernel_rfl) (by kernel_rfl) (fun _ _ _ h => h) (by kernel_rfl) ?hy107 ?_
   case hy107 => (intro W; go_simp; try rfl)
   simp only [ly]
   refine wpAny_ready (rs := [13]) (by kernel_rfl) (by simp) ?_
   refine AllReady.cons rfl (fun K hK => ?_) AllReady.nil
   go_simp
   first | (refine hK _ _ ?_; clear hK K) | skip
   try simp only [ly]
   refine wpAny_done (by kernel_rfl) ?_ _
   have HX0 := hide HX.out
   replace HKD := hide (HKD.out.set HX0.out 1 (.slice p7 n7 c7))
   replace HX := hide (HX0.out.set 1 (.slice p7 n7 c7))
   replace HXD : Hid (BX (x7.setCell ⟨gb, 1, none⟩ (.slice p7 n7 c7)) gd #[.int .i64 2, .bool st, .string nm, .string ot, .int .i64 n, .slice p m c, .int .i64 ln] 38) := BX.other HXD.out (Ne.symm HGD.out) 1 (.slice p7 n7 c7)
   replace HSN := hide (SN.set HSN.out (.inr HGB.out) 1 (.slice p7 n7 c7))
   replace HMM := hide (HMM.out.set HGM.out 1 (.slice p7 n7 c7))
   replace HW := hide (RW.set HW.out HX0.out ty_bld 1 (.slice p7 n7 c7))
   have HB : Hid (Below N w0 (x7.setCell ⟨gb, 1, none⟩ (.slice p7 n7 c7))) := HB7.out.setCell (p := ⟨gb, 1, none⟩) HGN.out (.slice p7 n7 c7)
   have HNW : Hid (N ≤ (x7.setCell ⟨gb, 1, none⟩ (.slice p7 n7 c7)).heap.size) := by unfold Hid; simpa [World.setCell] using HNW7.out
   have e5 : (x7.setCell ⟨gb, 1, none⟩ (.slice p7 n7 c7)).cell? ⟨gb, 5, none⟩ = some (.pointer (some ⟨D + 3, 0, none⟩)) := HX.out.cell 5 _ rfl
   have e0 := HXD.out.cell 0 _ rfl
   have e2 := HXD.out.cell 2 _ rfl
   clear z0 y0 d0 d2 HB7 HNW7 HX0
   go_upto_region 8 with fail
   generalize x7.setCell ⟨gb, 1, none⟩ (.slice p7 n7 c7) = u at *
   have HBD : Hid (BD N u gb D M h k ((t1, t2, t3, cl, op), S, G, f) fn v1 (.slice p7 n7 c7) v3 v4 v5 (r.1, r.2.1 ++ [nm], r.2.2)) := ⟨HX.out, HSN.out, HMM.out, HW.out, HGB.out, HGMD.out, HGMN.out, HNW.out⟩
   have HXU : Hid (SN u.drew D h k ((t1, t2, t3, cl, op), S, G, f)) := HSN.out.below (Below.refl u.heap.size u).drew
   have m5 := e5
   have m0 := e0
   have m2 := e2
   clear e5 e0 e2
   rcases hb : thB2 t2 S nm with _ | _
   ·have HRB := hide hb
    clear hb
    refine wp_region_held_drew (S := fun W => GQ 4 D u W) (by kernel_rfl) ((GQ.refl 4 D u).drew) (fun hS0 => ?_)
    refine tkJ 0 52 hS0 ?_; simp only [ly]
    refine tkJ 1 53 hS0 ?_; simp only [ly]
    refine tkJ 2 54 hS0 ?_; simp only [ly]
    refine tkI 3 55 ?v111 rfl rfl hS0 ?hy111 ?_
    case hy111 => (intro W hW; have e0 := gqcell hW m5 (.inr (by first | exact HGB.out | exact HGDD.out)); have e1 := gqcell hW m0 (.inr (by first | exact HGB.out | exact HGDD.out)); have e2 := gqcell hW m2 (.inr (by first | exact HGB.out | exact HGDD.out)); clear hW; go_simp; try rfl)
    simp only [ly]
    refine tkJ 4 56 hS0 ?_; simp only [ly]
    refine tkI 5 57 ?v113 rfl rfl hS0 ?hy113 ?_
    case hy113 => (intro W hW; have e0 := gqcell hW m5 (.inr (by first | exact HGB.out | exact HGDD.out)); have e1 := gqcell hW m0 (.inr (by first | exact HGB.out | exact HGDD.out)); have e2 := gqcell hW m2 (.inr (by first | exact HGB.out | exact HGDD.out)); clear hW; go_simp; try rfl)
    simp only [ly]
    refine tkJ 6 58 hS0 ?_; simp only [ly]
    refine tkI 7 59 ?v115 rfl rfl hS0 ?hy115 ?_
    case hy115 => (intro W hW; have e0 := gqcell hW m5 (.inr (by first | exact HGB.out | exact HGDD.out)); have e1 := gqcell hW m0 (.inr (by first | exact HGB.out | exact HGDD.out)); have e2 := gqcell hW m2 (.inr (by first | exact HGB.out | exact HGDD.out)); clear hW; go_simp; try rfl)
    simp only [ly]
    refine wpAnyH_ready (rs := [8]) (by kernel_rfl) (by simp) ?_
    refine AllReadyH.cons rfl (fun K hK => ?_) AllReadyH.nil
    go_simp
    go_at_call 46
    refine (thing16_2 D k h t1 t2 t3 cl op S G f nm _ HXU.out (Nat.le_trans HK.out (by decide)) HZS.out HT.out).mono ?_
    rintro e w1 ⟨rfl, hq, hp⟩
    rw [HRB.out]
    clear hp
    refine hK.out _ _ ?hs116 (fun hS1 => ?_)
    case hs116 => exact GQ.trans hS0 hq
    clear hK K
    try simp only [ly]
    refine tkJ 9 4 hS1 ?_; simp only [ly]
    refine wpAnyH_done (by kernel_rfl) ?_ _
    have HQ := hide hS1
    go_wp2
    go_ret
    exact ⟨by rw [HRB.out]; rfl, GQ.bel HB.out HQ.out HNW.out HGND.out, HKD.out.gq HBD.out.2.1 HQ.out, fun hh => by rw [HRB.out] at hh; cases hh⟩
   ·have HRB := hide hb
    clear hb
    refine wp_region_held_drew (S := fun W => GQ 4 D u W) (by kernel_rfl) ((GQ.refl 4 D u).drew) (fun hS0 => ?_)
    refine tkJ 0 52 hS0 ?_; simp only [ly]
    refine tkJ 1 53 hS0 ?_; simp only [ly]
    refine tkJ 2 54 hS0 ?_; simp only [ly]
    refine tkI 3 55 ?v121 rfl rfl hS0 ?hy121 ?_
    case hy121 => (intro W hW; have e0 := gqcell hW m5 (.inr (by first | exact HGB.out | exact HGDD.out)); have e1 := gqcell hW m0 (.inr (by first | exact HGB.out | exact HGDD.out)); have e2 := gqcell hW m2 (.inr (by first | exact HGB.out | exact HGDD.out)); clear hW; go_simp; try rfl)
    simp only [ly]
    refine tkJ 4 56 hS0 ?_; simp only [ly]
    refine tkI 5 57 ?v123 rfl rfl hS0 ?hy123 ?_
    case hy123 => (intro W hW; have e0 := gqcell hW m5 (.inr (by first | exact HGB.out | exact HGDD.out)); have e1 := gqcell hW m0 (.inr (by first | exact HGB.out | exact HGDD.out)); have e2 := gqcell hW m2 (.inr (by first | exact HGB.out | exact HGDD.out)); clear hW; go_simp; try rfl)
    simp only [ly]
    refine tkJ 6 58 hS0 ?_; simp only [ly]
    refine tkI 7 59 ?v125 rfl rfl hS0 ?hy125 ?_
    case hy125 => (intro W hW; have e0 := gqcell hW m5 (.inr (by first | exact HGB.out | exact HGDD.out)); have e1 := gqcell hW m0 (.inr (by first | exact HGB.out | exact HGDD.out)); have e2 := gqcell hW m2 (.inr (by first | exact HGB.out | exact HGDD.out)); clear hW; go_simp; try rfl)
    simp only [ly]
    refine wpAnyH_ready (rs := [8]) (by kernel_rfl) (by simp) ?_
    refine AllReadyH.cons rfl (fun K hK => ?_) AllReadyH.nil
    go_simp
    go_at_call 46
    refine (thing16_2 D k h t1 t2 t3 cl op S G f nm _ HXU.out (Nat.le_trans HK.out (by decide)) HZS.out HT.out).mono ?_
    rintro e w1 ⟨rfl, hq, hp⟩
    rw [HRB.out]
    have HP := hide (hp HRB.out)
    clear hp
    refine hK.out _ _ ?hs126 (fun hS1 => ?_)
    case hs126 => exact GQ.trans hS0 hq
    clear hK K
    try simp only [ly]
    refine tkJ 9 4 hS1 ?_; simp only [ly]
    refine wpAnyH_done (by kernel_rfl) ?_ _
    have HQ := hide hS1
    go_wp2
    go_ret
    exact ⟨by rw [HRB.out]; rfl, GQ.bel HB.out HQ.out HNW.out HGND.out, HKD.out.gq HBD.out.2.1 HQ.out, fun _ => ⟨_, _, _, _, _, BD.gq HBD.out HQ.out (HP.out.mono (by omega))⟩⟩
  ·go_simp
   have bq := bel1 x1 (.cells #[.string nm] 9)
   have HE := hide (RS.new encSt_len x1 _ rfl [nm] #[.string nm] rfl 9 (0, 0) 1 rfl (by decide))
   replace HX := hide (HX.out.below bq)
   replace HSN := hide (HSN.out.below bq)
   replace HMM := hide (HMM.out.below bq)
   replace HW := hide (HW.out.below bq)
   replace HXD := hide (HXD.out.below bq)
   replace HKD := hide (HKD.out.next bq)
   replace HB := hide (HB.out.trans (bq.mono HNW.out))
   have hNw := Nat.le_trans HNW.out bq.size
   clear bq z0 d2 HNW
   have HNW := hide hNw
   clear hNw
   generalize x1.alloc (.cells #[.string nm] 9) = x6 at *
   have z0 := HX.out.cell 1 _ rfl
   have d2 := HXD.out.cell 2 _ rfl
   first | (refine hK _ _ ?_; clear hK K) | skip
   try simp only [ly]
   refine wpAny_ready (rs := [5]) (by kernel_rfl) (by simp) ?_
   refine AllReady.cons rfl (fun K hK => ?_) AllReady.nil
   go_simp
   first | (refine hK _ _ ?_; clear hK K) | skip
   try simp only [ly]
   refine wpAny_ready (rs := [9]) (by kernel_rfl) (by simp) ?_
   refine AllReady.cons rfl (fun K hK => ?_) AllReady.nil
   refine append_wh _ _ 25 rfl Tryz.underlying25 Tryz.infoSt rfl (by decide) (by decide) encSt_len encSt_one N _ r.2.1 [nm] rfl HW.out.1.2.1 ⟨_, 0, none⟩ 1 1 rfl (by decide) HE.out (by have h9 := HLN.out; simp only [List.length_singleton]; omega) HNW.out ?_
   intro v7 x7 ho hgr hbel hwh
   obtain ⟨p7, c7, hv7, _, _⟩ := ho.open encSt_len
   obtain ⟨n7, hn7⟩ : ∃ n7, (r.2.1 ++ [nm]).length = n7 := ⟨_, rfl⟩
   rw [hn7] at hv7
   subst hv7
   clear hn7
   have HB7 : Hid (Below N w0 x7) := hbel w0 HB.out
   replace HX := hide (HX.out.grown hgr (OwnR.off HW.out.1.2.1 HX.out (by decide)))
   replace HXD := hide (HXD.out.grown hgr (OwnR.off HW.out.1.2.1 HXD.out (by decide)))
   replace HKD := hide (HKD.out.grown HW.out.1.2.1 (by decide) hgr)
   replace HSN := hide (HSN.out.grown HW.out.1.2.1 (by decide) hgr)
   replace HMM := hide (HMM.out.grown HW.out.1.2.1 hgr)
   have HNW7 := hide (Nat.le_trans HNW.out hgr.size)
   replace HW := hide (HW.out.str2 ho hgr hwh)
   clear ho hgr hbel hwh HE z0 d2 HB HNW
   have z0 := HX.out.cell 1 _ rfl
   have y0 := HX.out.free 1
   have d0 := HXD.out.cell 0 _ rfl
   have d2 := HXD.out.cell 2 _ rfl
   change K (Act.put _ (some 33) _) _
   first | (refine hK _ _ ?_; clear hK K) | skip
   try simp only [ly]
   refine takeP 10 34 ?v128 rfl rfl (by kernel_rfl) (by kernel_rfl) (by kernel_rfl) (fun _ _ _ h => h) (by kernel_rfl) ?hy128 ?_
   case hy128 => (intro W; go_simp; try rfl)
   simp only [ly]
   refine takeP 11 35 ?v129 rfl rfl (by kernel_rfl) (by kernel_rfl) (by kernel_rfl) (fun _ _ _ h => h) (by kernel_rfl) ?hy129 ?_
   case hy129 => (intro W; go_simp; try rfl)
   simp only [ly]
   refine takeP 12 36 ?v130 rfl rfl (by kernel_rfl) (by kernel_rfl) (by kernel_rfl) (fun _ _ _ h => h) (by kernel_rfl) ?hy130 ?_
   case hy130 => (intro W; go_simp; try rfl)
   simp only [ly]
   refine wpAny_ready (rs := [13]) (by kernel_rfl) (by simp) ?_
   refine AllReady.cons rfl (fun K hK => ?_) AllReady.nil
   go_simp
   first | (refine hK _ _ ?_; clear hK K) | skip
   try simp only [ly]
   refine wpAny_done (by kernel_rfl) ?_ _
   have HX0 := hide HX.out
   replace HKD := hide (HKD.out.set HX0.out 1 (.slice p7 n7 c7))
   replace HX := hide (HX0.out.set 1 (.slice p7 n7 c7))
   replace HXD : Hid (BX (x7.setCell ⟨gb, 1, none⟩ (.slice p7 n7 c7)) gd #[.int .i64 2, .bool st, .string nm, .string ot, .int .i64 n, .slice p m c, .int .i64 ln] 38) := BX.other HXD.out (Ne.symm HGD.out) 1 (.slice p7 n7 c7)
   replace HSN := hide (SN.set HSN.out (.inr HGB.out) 1 (.slice p7 n7 c7))
   replace HMM := hide (HMM.out.set HGM.out 1 (.slice p7 n7 c7))
   replace HW := hide (RW.set HW.out HX0.out ty_bld 1 (.slice p7 n7 c7))
   have HB : Hid (Below N w0 (x7.setCell ⟨gb, 1, none⟩ (.slice p7 n7 c7))) := HB7.out.setCell (p := ⟨gb, 1, none⟩) HGN.out (.slice p7 n7 c7)
   have HNW : Hid (N ≤ (x7.setCell ⟨gb, 1, none⟩ (.slice p7 n7 c7)).heap.size) := by unfold Hid; simpa [World.setCell] using HNW7.out
   have e5 : (x7.setCell ⟨gb, 1, none⟩ (.slice p7 n7 c7)).cell? ⟨gb, 5, none⟩ = some (.pointer (some ⟨D + 3, 0, none⟩)) := HX.out.cell 5 _ rfl
   have e0 := HXD.out.cell 0 _ rfl
   have e2 := HXD.out.cell 2 _ rfl
   clear z0 y0 d0 d2 HB7 HNW7 HX0
   go_upto_region 8 with fail
   generalize x7.setCell ⟨gb, 1, none⟩ (.slice p7 n7 c7) = u at *
   have HBD : Hid (BD N u gb D M h k ((t1, t2, t3, cl, op), S, G, f) fn v1 (.slice p7 n7 c7) v3 v4 v5 (r.1, r.2.1 ++ [nm], r.2.2)) := ⟨HX.out, HSN.out, HMM.out, HW.out, HGB.out, HGMD.out, HGMN.out, HNW.out⟩
   have HXU : Hid (SN u.drew D h k ((t1, t2, t3, cl, op), S, G, f)) := HSN.out.below (Below.refl u.heap.size u).drew
   have m5 := e5
   have m0 := e0
   have m2 := e2
   clear e5 e0 e2
   rcases hb : thB2 t2 S nm with _ | _
   ·have HRB := hide hb
    clear hb
    refine wp_region_held_drew (S := fun W => GQ 4 D u W) (by kernel_rfl) ((GQ.refl 4 D u).drew) (fun hS0 => ?_)
    refine tkJ 0 52 hS0 ?_; simp only [ly]
    refine tkJ 1 53 hS0 ?_; simp only [ly]
    refine tkJ 2 54 hS0 ?_; simp only [ly]
    refine tkI 3 55 ?v134 rfl rfl hS0 ?hy134 ?_
    case hy134 => (intro W hW; have e0 := gqcell hW m5 (.inr (by first | exact HGB.out | exact HGDD.out)); have e1 := gqcell hW m0 (.inr (by first | exact HGB.out | exact HGDD.out)); have e2 := gqcell hW m2 (.inr (by first | exact HGB.out | exact HGDD.out)); clear hW; go_simp; try rfl)
    simp only [ly]
    refine tkJ 4 56 hS0 ?_; simp only [ly]
    refine tkI 5 57 ?v136 rfl rfl hS0 ?hy136 ?_
    case hy136 => (intro W hW; have e0 := gqcell hW m5 (.inr (by first | exact HGB.out | exact HGDD.out)); have e1 := gqcell hW m0 (.inr (by first | exact HGB.out | exact HGDD.out)); have e2 := gqcell hW m2 (.inr (by first | exact HGB.out | exact HGDD.out)); clear hW; go_simp; try rfl)
    simp only [ly]
    refine tkJ 6 58 hS0 ?_; simp only [ly]
    refine tkI 7 59 ?v138 rfl rfl hS0 ?hy138 ?_
    case hy138 => (intro W hW; have e0 := gqcell hW m5 (.inr (by first | exact HGB.out | exact HGDD.out)); have e1 := gqcell hW m0 (.inr (by first | exact HGB.out | exact HGDD.out)); have e2 := gqcell hW m2 (.inr (by first | exact HGB.out | exact HGDD.out)); clear hW; go_simp; try rfl)
    simp only [ly]
    refine wpAnyH_ready (rs := [8]) (by kernel_rfl) (by simp) ?_
    refine AllReadyH.cons rfl (fun K hK => ?_) AllReadyH.nil
    go_simp
    go_at_call 46
    refine (thing16_2 D k h t1 t2 t3 cl op S G f nm _ HXU.out (Nat.le_trans HK.out (by decide)) HZS.out HT.out).mono ?_
    rintro e w1 ⟨rfl, hq, hp⟩
    rw [HRB.out]
    clear hp
    refine hK.out _ _ ?hs139 (fun hS1 => ?_)
    case hs139 => exact GQ.trans hS0 hq
    clear hK K
    try simp only [ly]
    refine tkJ 9 4 hS1 ?_; simp only [ly]
    refine wpAnyH_done (by kernel_rfl) ?_ _
    have HQ := hide hS1
    go_wp2
    go_ret
    exact ⟨by rw [HRB.out]; rfl, GQ.bel HB.out HQ.out HNW.out HGND.out, HKD.out.gq HBD.out.2.1 HQ.out, fun hh => by rw [HRB.out] at hh; cases hh⟩
   ·have HRB := hide hb
    clear hb
    refine wp_region_held_drew (S := fun W => GQ 4 D u W) (by kernel_rfl) ((GQ.refl 4 D u).drew) (fun hS0 => ?_)
    refine tkJ 0 52 hS0 ?_; simp only [ly]
    refine tkJ 1 53 hS0 ?_; simp only [ly]
    refine tkJ 2 54 hS0 ?_; simp only [ly]
    refine tkI 3 55 ?v144 rfl rfl hS0 ?hy144 ?_
    case hy144 => (intro W hW; have e0 := gqcell hW m5 (.inr (by first | exact HGB.out | exact HGDD.out)); have e1 := gqcell hW m0 (.inr (by first | exact HGB.out | exact HGDD.out)); have e2 := gqcell hW m2 (.inr (by first | exact HGB.out | exact HGDD.out)); clear hW; go_simp; try rfl)
    simp only [ly]
    refine tkJ 4 56 hS0 ?_; simp only [ly]
    refine tkI 5 57 ?v146 rfl rfl hS0 ?hy146 ?_
    case hy146 => (intro W hW; have e0 := gqcell hW m5 (.inr (by first | exact HGB.out | exact HGDD.out)); have e1 := gqcell hW m0 (.inr (by first | exact HGB.out | exact HGDD.out)); have e2 := gqcell hW m2 (.inr (by first | exact HGB.out | exact HGDD.out)); clear hW; go_simp; try rfl)
    simp only [ly]
    refine tkJ 6 58 hS0 ?_; simp only [ly]
    refine tkI 7 59 ?v148 rfl rfl hS0 ?hy148 ?_
    case hy148 => (intro W hW; have e0 := gqcell hW m5 (.inr (by first | exact HGB.out | exact HGDD.out)); have e1 := gqcell hW m0 (.inr (by first | exact HGB.out | exact HGDD.out)); have e2 := gqcell hW m2 (.inr (by first | exact HGB.out | exact HGDD.out)); clear hW; go_simp; try rfl)
    simp only [ly]
    refine wpAnyH_ready (rs := [8]) (by kernel_rfl) (by simp) ?_
    refine AllReadyH.cons rfl (fun K hK => ?_) AllReadyH.nil
    go_simp
    go_at_call 46
    refine (thing16_2 D k h t1 t2 t3 cl op S G f nm _ HXU.out (Nat.le_trans HK.out (by decide)) HZS.out HT.out).mono ?_
    rintro e w1 ⟨rfl, hq, hp⟩
    rw [HRB.out]
    have HP := hide (hp HRB.out)
    clear hp
    refine hK.out _ _ ?hs149 (fun hS1 => ?_)
    case hs149 => exact GQ.trans hS0 hq
    clear hK K
    try simp only [ly]
    refine tkJ 9 4 hS1 ?_; simp only [ly]
    refine wpAnyH_done (by kernel_rfl) ?_ _
    have HQ := hide hS1
    go_wp2
    go_ret
    exact ⟨by rw [HRB.out]; rfl, GQ.bel HB.out HQ.out HNW.out HGND.out, HKD.out.gq HBD.out.2.1 HQ.out, fun _ => ⟨_, _, _, _, _, BD.gq HBD.out HQ.out (HP.out.mono (by omega))⟩⟩
set_option maxHeartbeats 8000000 in
set_option maxRecDepth 8000 in
theorem bthing16_3 (N gb D M k : Nat) (h : Int × Int × Int) (t1 t2 t3 cl op : Int) (S : List ByteArray) (G : List Int) (f : Int → Int → Int) (fn : Int → ByteArray → Option Int) (v1 v2 v3 v4 v5 : Value) (r : Ru) (st : Bool) (nm ot : ByteArray) (n ln : Int) (p : Option Addr) (m c : Nat) (w0 w : World) (hD : BD N w gb D M h k ((t1, t2, t3, cl, op), S, G, f) fn v1 v2 v3 v4 v5 r) (hB : Below N w0 w) (hk : k ≤ 9000) (hs : nm.size ≤ maxLen) (ht : 0 ≤ t3 ∧ t3 ≤ 1000) (hl : r.2.2.1.length ≤ 1000) :
  Calls Tryz.prog 37 #[.pointer (some ⟨gb, 0, none⟩), .agg #[.int .i64 3, .bool st, .string nm, .string ot, .int .i64 n, .slice p m c, .int .i64 ln]] w fun e w' => e = .returned (.bool (thB3 t3 S nm)) ∧ Below N w0 w' ∧ KpD w w' ∧ (thB3 t3 S nm = true → ∃ v1 v2 v3 v4 v5, BD N w' gb D M h (k + 20) ((t1, t2, t3 + 1, cl, op), S ++ [nm], G, f) fn v1 v2 v3 v4 v5 (r.1, r.2.1, r.2.2.1 ++ [nm], r.2.2.2)) := by
 obtain ⟨hx, hsn, hmm, hw, hgb, hgmd, hgmn, hnw⟩ := hD
 have HK := hide hk
 have HZS := hide hs
 have HT := hide ht
 have HLN := hide hl
 have HGB := hide hgb
 have HGMD := hide hgmd
 have HGMN := hide hgmn
 have HGND : Hid (N ≤ D) := by unfold Hid; omega
 have HGN : Hid (N ≤ gb) := by unfold Hid; omega
 have HGM : Hid (gb ≠ M) := by unfold Hid; omega
 have hgw := hx.size
 have HNN := hide (Nat.le_refl N)
 have bq := bel1 w (.cells #[.int .i64 3, .bool st, .string nm, .string ot, .int .i64 n, .slice p m c, .int .i64 ln] 38)
 have HX := hide (hx.below bq)
 have HSN := hide (hsn.below bq)
 have HMM := hide (hmm.below bq)
 have HW := hide (hw.below bq)
 have HXD : Hid (BX (w.alloc (.cells #[.int .i64 3, .bool st, .string nm, .string ot, .int .i64 n, .slice p m c, .int .i64 ln] 38)) w.heap.size #[.int .i64 3, .bool st, .string nm, .string ot, .int .i64 n, .slice p m c, .int .i64 ln] 38) := BX.new w _ rfl _ _
 have HB : Hid (Below N w0 (w.alloc (.cells #[.int .i64 3, .bool st, .string nm, .string ot, .int .i64 n, .slice p m c, .int .i64 ln] 38))) := hB.alloc hnw _
 have HNW : Hid (N ≤ (w.alloc (.cells #[.int .i64 3, .bool st, .string nm, .string ot, .int .i64 n, .slice p m c, .int .i64 ln] 38)).heap.size) := Nat.le_trans hnw bq.size
 have HGD : Hid (w.heap.size ≠ gb) := by unfold Hid; omega
 have HKD : Hid (KpD w (w.alloc (.cells #[.int .i64 3, .bool st, .string nm, .string ot, .int .i64 n, .slice p m c, .int .i64 ln] 38))) := fun g C q => q.below bq
 have HGDD : Hid (D + 4 ≤ w.heap.size) := by unfold Hid; omega
 clear hx hsn hmm hw hgb hgmd hgmn hnw hk hs ht hl hB bq hgw
 go_enter Tryz.func37, Tryz.ntmps37
 go_upto_region 7 with fail
 generalize w.alloc (.cells #[.int .i64 3, .bool st, .string nm, .string ot, .int .i64 n, .slice p m c, .int .i64 ln] 38) = u0 at *
 generalize w.heap.size = gd at *
 replace HX := hide (HX.out.below (Below.refl _ u0).drew)
 replace HSN := hide (HSN.out.below (Below.refl _ u0).drew)
 replace HMM := hide (HMM.out.below (Below.refl _ u0).drew)
 replace HW := hide (HW.out.below (Below.refl _ u0).drew)
 replace HXD := hide (HXD.out.below (Below.refl _ u0).drew)
 replace HKD := hide (HKD.out.next (Below.refl _ u0).drew)
 replace HB := hide HB.out.drew
 replace HNW : Hid (N ≤ u0.drew.heap.size) := HNW
 refine wp_region_any (by kernel_rfl) ?_
 change wpAny _ _ _ _ _ _ _ (World.drew _)
 generalize u0.drew = x1 at *
 have z0 := HX.out.cell 2 _ rfl
 have d2 := HXD.out.cell 2 _ rfl
 refine takeP 0 39 ?v151 rfl rfl (by kernel_rfl) (by kernel_rfl) (by kernel_rfl) (fun _ _ _ h => h) (by kernel_rfl) ?hy151 ?_
 case hy151 => (intro W; go_simp; try rfl)
 simp only [ly]
 refine takeP 1 40 ?v152 rfl rfl (by kernel_rfl) (by kernel_rfl) (by kernel_rfl) (fun _ _ _ h => h) (by kernel_rfl) ?hy152 ?_
 case hy152 => (intro W; go_simp; try rfl)
 simp only [ly]
 refine takeP 2 41 ?v153 rfl rfl (by kernel_rfl) (by kernel_rfl) (by kernel_rfl) (fun _ _ _ h => h) (by kernel_rfl) ?hy153 ?_
 case hy153 => (intro W; go_simp; try rfl)
 simp only [ly]
 refine takeP 3 42 ?v154 rfl rfl (by kernel_rfl) (by kernel_rfl) (by kernel_rfl) (fun _ _ _ h => h) (by kernel_rfl) ?hy154 ?_
 case hy154 => (intro W; go_simp; try rfl)
 simp only [ly]
 refine takeP 4 43 ?v155 rfl rfl (by kernel_rfl) (by kernel_rfl) (by kernel_rfl) (fun _ _ _ h => h) (by kernel_rfl) ?hy155 ?_
 case hy155 => (intro W; go_simp; try rfl)
 simp only [ly]
 refine takeP 6 45 ?v156 rfl rfl (by kernel_rfl) (by kernel_rfl) (by kernel_rfl) (fun _ _ _ h => h) (by kernel_rfl) ?hy156 ?_
 case hy156 => (intro W; go_simp; try rfl)
 simp only [ly]
 refine wpAny_ready (rs := [5, 7]) (by kernel_rfl) (by simp) ?_
 refine AllReady.cons rfl (fun K hK => ?_) (AllReady.cons rfl (fun K hK => ?_) AllReady.nil)
 ·go_simp
  first | (refine hK _ _ ?_; clear hK K) | skip
  try simp only [ly]
  refine wpAny_ready (rs := [7]) (by kernel_rfl) (by simp) ?_
  refine AllReady.cons rfl (fun K hK => ?_) AllReady.nil
  go_simp
  first | (refine hK _ _ ?_; clear hK K) | skip
  try simp only [ly]
  refine wpAny_ready (rs := [8]) (by kernel_rfl) (by simp) ?_
  refine AllReady.cons rfl (fun K hK => ?_) AllReady.nil
  go_simp
  have bq := bel1 x1 (.cells #[.string nm] 9)
  have HE := hide (RS.new encSt_len x1 _ rfl [nm] #[.string nm] rfl 9 (0, 0) 1 rfl (by decide))
  replace HX := hide (HX.out.below bq)
  replace HSN := hide (HSN.out.below bq)
  replace HMM := hide (HMM.out.below bq)
  replace HW := hide (HW.out.below bq)
  replace HXD := hide (HXD.out.below bq)
  replace HKD := hide (HKD.out.next bq)
  replace HB := hide (HB.out.trans (bq.mono HNW.out))
  have hNw := Nat.le_trans HNW.out bq.size
  clear bq z0 d2 HNW
  have HNW := hide hNw
  clear hNw
  generalize x1.alloc (.cells #[.string nm] 9) = x6 at *
  have z0 := HX.out.cell 2 _ rfl
  have d2 := HXD.out.cell 2 _ rfl
  first | (refine hK _ _ ?_; clear hK K) | skip
  try simp only [ly]
  refine wpAny_ready (rs := [9]) (by kernel_rfl) (by simp) ?_
  refine AllReady.cons rfl (fun K hK => ?_) AllReady.nil
  refine append_wh _ _ 25 rfl Tryz.underlying25 Tryz.infoSt rfl (by decide) (by decide) encSt_len encSt_one N _ r.2.2.1 [nm] rfl HW.out.1.2.2.1 ⟨_, 0, none⟩ 1 1 rfl (by decide) HE.out (by have h9 := HLN.out; simp only [List.length_singleton]; omega) HNW.out ?_
  intro v7 x7 ho hgr hbel hwh
  obtain ⟨p7, c7, hv7, _, _⟩ := ho.open encSt_len
  obtain ⟨n7, hn7⟩ : ∃ n7, (r.2.2.1 ++ [nm]).length = n7 := ⟨_, rfl⟩
  rw [hn7] at hv7
  subst hv7
  clear hn7
  have HB7 : Hid (Below N w0 x7) := hbel w0 HB.out
  replace HX := hide (HX.out.grown hgr (OwnR.off HW.out.1.2.2.1 HX.out (by decide)))
  replace HXD := hide (HXD.out.grown hgr (OwnR.off HW.out.1.2.2.1 HXD.out (by decide)))
  replace HKD := hide (HKD.out.grown HW.out.1.2.2.1 (by decide) hgr)
  replace HSN := hide (HSN.out.grown HW.out.1.2.2.1 (by decide) hgr)
  replace HMM := hide (HMM.out.grown HW.out.1.2.2.1 hgr)
  have HNW7 := hide (Nat.le_trans HNW.out hgr.size)
  replace HW := hide (HW.out.str3 ho hgr hwh)
  clear ho hgr hbel hwh HE z0 d2 HB HNW
  have z0 := HX.out.cell 2 _ rfl
  have y0 := HX.out.free 2
  have d0 := HXD.out.cell 0 _ rfl
  have d2 := HXD.out.cell 2 _ rfl
  change K (Act.put _ (some 48) _) _
  first | (refine hK _ _ ?_; clear hK K) | skip
  try simp only [ly]
  refine takeP 10 49 ?v157 rfl rfl (by kernel_rfl) (by kernel_rfl) (by kernel_rfl) (fun _ _ _ h => h) (by kernel_rfl) ?hy157 ?_
  case hy157 => (intro W; go_simp; try rfl)
  simp only [ly]
  refine takeP 11 50 ?v158 rfl rfl (by kernel_rfl) (by kernel_rfl) (by kernel_rfl) (fun _ _ _ h => h) (by kernel_rfl) ?hy158 ?_
  case hy158 => (intro W; go_simp; try rfl)
  simp only [ly]
  refine takeP 12 51 ?v159 rfl rfl (by kernel_rfl) (by kernel_rfl) (by kernel_rfl) (fun _ _ _ h => h) (by kernel_rfl) ?hy159 ?_
  case hy159 => (intro W; go_simp; try rfl)
  simp only [ly]
  refine wpAny_ready (rs := [13]) (by kernel_rfl) (by simp) ?_
  refine AllReady.cons rfl (fun K hK => ?_) AllReady.nil
  go_simp
  first | (refine hK _ _ ?_; clear hK K) | skip
  try simp only [ly]
  refine wpAny_done (by kernel_rfl) ?_ _
  have HX0 := hide HX.out
  replace HKD := hide (HKD.out.set HX0.out 2 (.slice p7 n7 c7))
  replace HX := hide (HX0.out.set 2 (.slice p7 n7 c7))
  replace HXD : Hid (BX (x7.setCell ⟨gb, 2, none⟩ (.slice p7 n7 c7)) gd #[.int .i64 3, .bool st, .string nm, .string ot, .int .i64 n, .slice p m c, .int .i64 ln] 38) := BX.other HXD.out (Ne.symm HGD.out) 2 (.slice p7 n7 c7)
  replace HSN := hide (SN.set HSN.out (.inr HGB.out) 2 (.slice p7 n7 c7))
  replace HMM := hide (HMM.out.set HGM.out 2 (.slice p7 n7 c7))
  replace HW := hide (RW.set HW.out HX0.out ty_bld 2 (.slice p7 n7 c7))
  have HB : Hid (Below N w0 (x7.setCell ⟨gb, 2, none⟩ (.slice p7 n7 c7))) := HB7.out.setCell (p := ⟨gb, 2, none⟩) HGN.out (.slice p7 n7 c7)
  have HNW : Hid (N ≤ (x7.setCell ⟨gb, 2, none⟩ (.slice p7 n7 c7)).heap.size) := by unfold Hid; simpa [World.setCell] using HNW7.out
  have e5 : (x7.setCell ⟨gb, 2, none⟩ (.slice p7 n7 c7)).cell? ⟨gb, 5, none⟩ = some (.pointer (some ⟨D + 3, 0, none⟩)) := HX.out.cell 5 _ rfl
  have e0 := HXD.out.cell 0 _ rfl
  have e2 := HXD.out.cell 2 _ rfl
  clear z0 y0 d0 d2 HB7 HNW7 HX0
  go_upto_region 8 with fail
  generalize x7.setCell ⟨gb, 2, none⟩ (.slice p7 n7 c7) = u at *
  have HBD : Hid (BD N u gb D M h k ((t1, t2, t3, cl, op), S, G, f) fn v1 v2 (.slice p7 n7 c7) v4 v5 (r.1, r.2.1, r.2.2.1 ++ [nm], r.2.2.2)) := ⟨HX.out, HSN.out, HMM.out, HW.out, HGB.out, HGMD.out, HGMN.out, HNW.out⟩
  have HXU : Hid (SN u.drew D h k ((t1, t2, t3, cl, op), S, G, f)) := HSN.out.below (Below.refl u.heap.size u).drew
  have m5 := e5
  have m0 := e0
  have m2 := e2
  clear e5 e0 e2
  rcases hb : thB3 t3 S nm with _ | _
  ·have HRB := hide hb
   clear hb
   refine wp_region_held_drew (S := fun W => GQ 4 D u W) (by kernel_rfl) ((GQ.refl 4 D u).drew) (fun hS0 => ?_)
   refine tkJ 0 52 hS0 ?_; simp only [ly]
   refine tkJ 1 53 hS0 ?_; simp only [ly]
   refine tkJ 2 54 hS0 ?_; simp only [ly]
   refine tkI 3 55 ?v163 rfl rfl hS0 ?hy163 ?_
   case hy163 => (intro W hW; have e0 := gqcell hW m5 (.inr (by first | exact HGB.out | exact HGDD.out)); have e1 := gqcell hW m0 (.inr (by first | exact HGB.out | exact HGDD.out)); have e2 := gqcell hW m2 (.inr (by first | exact HGB.out | exact HGDD.out)); clear hW; go_simp; try rfl)
   simp only [ly]
   refine tkJ 4 56 hS0 ?_; simp only [ly]
   refine tkI 5 57 ?v165 rfl rfl hS0 ?hy165 ?_
   case hy165 => (intro W hW; have e0 := gqcell hW m5 (.inr (by first | exact HGB.out | exact HGDD.out)); have e1 := gqcell hW m0 (.inr (by first | exact HGB.out | exact HGDD.out)); have e2 := gqcell hW m2 (.inr (by first | exact HGB.out | exact HGDD.out)); clear hW; go_simp; try rfl)
   simp only [ly]
   refine tkJ 6 58 hS0 ?_; simp only [ly]
   refine tkI 7 59 ?v167 rfl rfl hS0 ?hy167 ?_
   case hy167 => (intro W hW; have e0 := gqcell hW m5 (.inr (by first | exact HGB.out | exact HGDD.out)); have e1 := gqcell hW m0 (.inr (by first | exact HGB.out | exact HGDD.out)); have e2 := gqcell hW m2 (.inr (by first | exact HGB.out | exact HGDD.out)); clear hW; go_simp; try rfl)
   simp only [ly]
   refine wpAnyH_ready (rs := [8]) (by kernel_rfl) (by simp) ?_
   refine AllReadyH.cons rfl (fun K hK => ?_) AllReadyH.nil
   go_simp
   go_at_call 46
   refine (thing16_3 D k h t1 t2 t3 cl op S G f nm _ HXU.out (Nat.le_trans HK.out (by decide)) HZS.out HT.out).mono ?_
   rintro e w1 ⟨rfl, hq, hp⟩
   rw [HRB.out]
   clear hp
   refine hK.out _ _ ?hs168 (fun hS1 => ?_)
   case hs168 => exact GQ.trans hS0 hq
   clear hK K
   try simp only [ly]
   refine tkJ 9 4 hS1 ?_; simp only [ly]
   refine wpAnyH_done (by kernel_rfl) ?_ _
   have HQ := hide hS1
   go_wp2
   go_ret
   exact ⟨by rw [HRB.out]; rfl, GQ.bel HB.out HQ.out HNW.out HGND.out, HKD.out.gq HBD.out.2.1 HQ.out, fun hh => by rw [HRB.out] at hh; cases hh⟩
  ·have HRB := hide hb
   clear hb
   refine wp_region_held_drew (S := fun W => GQ 4 D u W) (by kernel_rfl) ((GQ.refl 4 D u).drew) (fun hS0 => ?_)
   refine tkJ 0 52 hS0 ?_; simp only [ly]
   refine tkJ 1 53 hS0 ?_; simp only [ly]
   refine tkJ 2 54 hS0 ?_; simp only [ly]
   refine tkI 3 55 ?v173 rfl rfl hS0 ?hy173 ?_
   case hy173 => (intro W hW; have e0 := gqcell hW m5 (.inr (by first | exact HGB.out | exact HGDD.out)); have e1 := gqcell hW m0 (.inr (by first | exact HGB.out | exact HGDD.out)); have e2 := gqcell hW m2 (.inr (by first | exact HGB.out | exact HGDD.out)); clear hW; go_simp; try rfl)
   simp only [ly]
   refine tkJ 4 56 hS0 ?_; simp only [ly]
   refine tkI 5 57 ?v175 rfl rfl hS0 ?hy175 ?_
   case hy175 => (intro W hW; have e0 := gqcell hW m5 (.inr (by first | exact HGB.out | exact HGDD.out)); have e1 := gqcell hW m0 (.inr (by first | exact HGB.out | exact HGDD.out)); have e2 := gqcell hW m2 (.inr (by first | exact HGB.out | exact HGDD.out)); clear hW; go_simp; try rfl)
   simp only [ly]
   refine tkJ 6 58 hS0 ?_; simp only [ly]
   refine tkI 7 59 ?v177 rfl rfl hS0 ?hy177 ?_
   case hy177 => (intro W hW; have e0 := gqcell hW m5 (.inr (by first | exact HGB.out | exact HGDD.out)); have e1 := gqcell hW m0 (.inr (by first | exact HGB.out | exact HGDD.out)); have e2 := gqcell hW m2 (.inr (by first | exact HGB.out | exact HGDD.out)); clear hW; go_simp; try rfl)
   simp only [ly]
   refine wpAnyH_ready (rs := [8]) (by kernel_rfl) (by simp) ?_
   refine AllReadyH.cons rfl (fun K hK => ?_) AllReadyH.nil
   go_simp
   go_at_call 46
   refine (thing16_3 D k h t1 t2 t3 cl op S G f nm _ HXU.out (Nat.le_trans HK.out (by decide)) HZS.out HT.out).mono ?_
   rintro e w1 ⟨rfl, hq, hp⟩
   rw [HRB.out]
   have HP := hide (hp HRB.out)
   clear hp
   refine hK.out _ _ ?hs178 (fun hS1 => ?_)
   case hs178 => exact GQ.trans hS0 hq
   clear hK K
   try simp only [ly]
   refine tkJ 9 4 hS1 ?_; simp only [ly]
   refine wpAnyH_done (by kernel_rfl) ?_ _
   have HQ := hide hS1
   go_wp2
   go_ret
   exact ⟨by rw [HRB.out]; rfl, GQ.bel HB.out HQ.out HNW.out HGND.out, HKD.out.gq HBD.out.2.1 HQ.out, fun _ => ⟨_, _, _, _, _, BD.gq HBD.out HQ.out (HP.out.mono (by omega))⟩⟩
 ·go_simp
  first | (refine hK _ _ ?_; clear hK K) | skip
  try simp only [ly]
  refine wpAny_ready (rs := [5, 8]) (by kernel_rfl) (by simp) ?_
  refine AllReady.cons rfl (fun K hK => ?_) (AllReady.cons rfl (fun K hK => ?_) AllReady.nil)
  ·go_simp
   first | (refine hK _ _ ?_; clear hK K) | skip
   try simp only [ly]
   refine wpAny_ready (rs := [8]) (by kernel_rfl) (by simp) ?_
   refine AllReady.cons rfl (fun K hK => ?_) AllReady.nil
   go_simp
   have bq := bel1 x1 (.cells #[.string nm] 9)
   have HE := hide (RS.new encSt_len x1 _ rfl [nm] #[.string nm] rfl 9 (0, 0) 1 rfl (by decide))
   replace HX := hide (HX.out.below bq)
   replace HSN := hide (HSN.out.below bq)
   replace HMM := hide (HMM.out.below bq)
   replace HW := hide (HW.out.below bq)
   replace HXD := hide (HXD.out.below bq)
   replace HKD := hide (HKD.out.next bq)
   replace HB := hide (HB.out.trans (bq.mono HNW.out))
   have hNw := Nat.le_trans HNW.out bq.size
   clear bq z0 d2 HNW
   have HNW := hide hNw
   clear hNw
   generalize x1.alloc (.cells #[.string nm] 9) = x6 at *
   have z0 := HX.out.cell 2 _ rfl
   have d2 := HXD.out.cell 2 _ rfl
   first | (refine hK _ _ ?_; clear hK K) | skip
   try simp only [ly]
   refine wpAny_ready (rs := [9]) (by kernel_rfl) (by simp) ?_
   refine AllReady.cons rfl (fun K hK => ?_) AllReady.nil
   refine append_wh _ _ 25 rfl Tryz.underlying25 Tryz.infoSt rfl (by decide) (by decide) encSt_len encSt_one N _ r.2.2.1 [nm] rfl HW.out.1.2.2.1 ⟨_, 0, none⟩ 1 1 rfl (by decide) HE.out (by have h9 := HLN.out; simp only [List.length_singleton]; omega) HNW.out ?_
   intro v7 x7 ho hgr hbel hwh
   obtain ⟨p7, c7, hv7, _, _⟩ := ho.open encSt_len
   obtain ⟨n7, hn7⟩ : ∃ n7, (r.2.2.1 ++ [nm]).length = n7 := ⟨_, rfl⟩
   rw [hn7] at hv7
   subst hv7
   clear hn7
   have HB7 : Hid (Below N w0 x7) := hbel w0 HB.out
   replace HX := hide (HX.out.grown hgr (OwnR.off HW.out.1.2.2.1 HX.out (by decide)))
   replace HXD := hide (HXD.out.grown hgr (OwnR.off HW.out.1.2.2.1 HXD.out (by decide)))
   replace HKD := hide (HKD.out.grown HW.out.1.2.2.1 (by decide) hgr)
   replace HSN := hide (HSN.out.grown HW.out.1.2.2.1 (by decide) hgr)
   replace HMM := hide (HMM.out.grown HW.out.1.2.2.1 hgr)
   have HNW7 := hide (Nat.le_trans HNW.out hgr.size)
   replace HW := hide (HW.out.str3 ho hgr hwh)
   clear ho hgr hbel hwh HE z0 d2 HB HNW
   have z0 := HX.out.cell 2 _ rfl
   have y0 := HX.out.free 2
   have d0 := HXD.out.cell 0 _ rfl
   have d2 := HXD.out.cell 2 _ rfl
   change K (Act.put _ (some 48) _) _
   first | (refine hK _ _ ?_; clear hK K) | skip
   try simp only [ly]
   refine takeP 10 49 ?v180 rfl rfl (by kernel_rfl) (by kernel_rfl) (by kernel_rfl) (fun _ _ _ h => h) (by kernel_rfl) ?hy180 ?_
   case hy180 => (intro W; go_simp; try rfl)
   simp only [ly]
   refine takeP 11 50 ?v181 rfl rfl (by kernel_rfl) (by kernel_rfl) (by kernel_rfl) (fun _ _ _ h => h) (by kernel_rfl) ?hy181 ?_
   case hy181 => (intro W; go_simp; try rfl)
   simp only [ly]
   refine takeP 12 51 ?v182 rfl rfl (by kernel_rfl) (by kernel_rfl) (by kernel_rfl) (fun _ _ _ h => h) (by kernel_rfl) ?hy182 ?_
   case hy182 => (intro W; go_simp; try rfl)
   simp only [ly]
   refine wpAny_ready (rs := [13]) (by kernel_rfl) (by simp) ?_
   refine AllReady.cons rfl (fun K hK => ?_) AllReady.nil
   go_simp
   first | (refine hK _ _ ?_; clear hK K) | skip
   try simp only [ly]
   refine wpAny_done (by kernel_rfl) ?_ _
   have HX0 := hide HX.out
   replace HKD := hide (HKD.out.set HX0.out 2 (.slice p7 n7 c7))
   replace HX := hide (HX0.out.set 2 (.slice p7 n7 c7))
   replace HXD : Hid (BX (x7.setCell ⟨gb, 2, none⟩ (.slice p7 n7 c7)) gd #[.int .i64 3, .bool st, .string nm, .string ot, .int .i64 n, .slice p m c, .int .i64 ln] 38) := BX.other HXD.out (Ne.symm HGD.out) 2 (.slice p7 n7 c7)
   replace HSN := hide (SN.set HSN.out (.inr HGB.out) 2 (.slice p7 n7 c7))
   replace HMM := hide (HMM.out.set HGM.out 2 (.slice p7 n7 c7))
   replace HW := hide (RW.set HW.out HX0.out ty_bld 2 (.slice p7 n7 c7))
   have HB : Hid (Below N w0 (x7.setCell ⟨gb, 2, none⟩ (.slice p7 n7 c7))) := HB7.out.setCell (p := ⟨gb, 2, none⟩) HGN.out (.slice p7 n7 c7)
   have HNW : Hid (N ≤ (x7.setCell ⟨gb, 2, none⟩ (.slice p7 n7 c7)).heap.size) := by unfold Hid; simpa [World.setCell] using HNW7.out
   have e5 : (x7.setCell ⟨gb, 2, none⟩ (.slice p7 n7 c7)).cell? ⟨gb, 5, none⟩ = some (.pointer (some ⟨D + 3, 0, none⟩)) := HX.out.cell 5 _ rfl
   have e0 := HXD.out.cell 0 _ rfl
   have e2 := HXD.out.cell 2 _ rfl
   clear z0 y0 d0 d2 HB7 HNW7 HX0
   go_upto_region 8 with fail
   generalize x7.setCell ⟨gb, 2, none⟩ (.slice p7 n7 c7) = u at *
   have HBD : Hid (BD N u gb D M h k ((t1, t2, t3, cl, op), S, G, f) fn v1 v2 (.slice p7 n7 c7) v4 v5 (r.1, r.2.1, r.2.2.1 ++ [nm], r.2.2.2)) := ⟨HX.out, HSN.out, HMM.out, HW.out, HGB.out, HGMD.out, HGMN.out, HNW.out⟩
   have HXU : Hid (SN u.drew D h k ((t1, t2, t3, cl, op), S, G, f)) := HSN.out.below (Below.refl u.heap.size u).drew
   have m5 := e5
   have m0 := e0
   have m2 := e2
   clear e5 e0 e2
   rcases hb : thB3 t3 S nm with _ | _
   ·have HRB := hide hb
    clear hb
    refine wp_region_held_drew (S := fun W => GQ 4 D u W) (by kernel_rfl) ((GQ.refl 4 D u).drew) (fun hS0 => ?_)
    refine tkJ 0 52 hS0 ?_; simp only [ly]
    refine tkJ 1 53 hS0 ?_; simp only [ly]
    refine tkJ 2 54 hS0 ?_; simp only [ly]
    refine tkI 3 55 ?v186 rfl rfl hS0 ?hy186 ?_
    case hy186 => (intro W hW; have e0 := gqcell hW m5 (.inr (by first | exact HGB.out | exact HGDD.out)); have e1 := gqcell hW m0 (.inr (by first | exact HGB.out | exact HGDD.out)); have e2 := gqcell hW m2 (.inr (by first | exact HGB.out | exact HGDD.out)); clear hW; go_simp; try rfl)
    simp only [ly]
    refine tkJ 4 56 hS0 ?_; simp only [ly]
    refine tkI 5 57 ?v188 rfl rfl hS0 ?hy188 ?_
    case hy188 => (intro W hW; have e0 := gqcell hW m5 (.inr (by first | exact HGB.out | exact HGDD.out)); have e1 := gqcell hW m0 (.inr (by first | exact HGB.out | exact HGDD.out)); have e2 := gqcell hW m2 (.inr (by first | exact HGB.out | exact HGDD.out)); clear hW; go_simp; try rfl)
    simp only [ly]
    refine tkJ 6 58 hS0 ?_; simp only [ly]
    refine tkI 7 59 ?v190 rfl rfl hS0 ?hy190 ?_
    case hy190 => (intro W hW; have e0 := gqcell hW m5 (.inr (by first | exact HGB.out | exact HGDD.out)); have e1 := gqcell hW m0 (.inr (by first | exact HGB.out | exact HGDD.out)); have e2 := gqcell hW m2 (.inr (by first | exact HGB.out | exact HGDD.out)); clear hW; go_simp; try rfl)
    simp only [ly]
    refine wpAnyH_ready (rs := [8]) (by kernel_rfl) (by simp) ?_
    refine AllReadyH.cons rfl (fun K hK => ?_) AllReadyH.nil
    go_simp
    go_at_call 46
    refine (thing16_3 D k h t1 t2 t3 cl op S G f nm _ HXU.out (Nat.le_trans HK.out (by decide)) HZS.out HT.out).mono ?_
    rintro e w1 ⟨rfl, hq, hp⟩
    rw [HRB.out]
    clear hp
    refine hK.out _ _ ?hs191 (fun hS1 => ?_)
    case hs191 => exact GQ.trans hS0 hq
    clear hK K
    try simp only [ly]
    refine tkJ 9 4 hS1 ?_; simp only [ly]
    refine wpAnyH_done (by kernel_rfl) ?_ _
    have HQ := hide hS1
    go_wp2
    go_ret
    exact ⟨by rw [HRB.out]; rfl, GQ.bel HB.out HQ.out HNW.out HGND.out, HKD.out.gq HBD.out.2.1 HQ.out, fun hh => by rw [HRB.out] at hh; cases hh⟩
   ·have HRB := hide hb
    clear hb
    refine wp_region_held_drew (S := fun W => GQ 4 D u W) (by kernel_rfl) ((GQ.refl 4 D u).drew) (fun hS0 => ?_)
    refine tkJ 0 52 hS0 ?_; simp only [ly]
    refine tkJ 1 53 hS0 ?_; simp only [ly]
    refine tkJ 2 54 hS0 ?_; simp only [ly]
    refine tkI 3 55 ?v196 rfl rfl hS0 ?hy196 ?_
    case hy196 => (intro W hW; have e0 := gqcell hW m5 (.inr (by first | exact HGB.out | exact HGDD.out)); have e1 := gqcell hW m0 (.inr (by first | exact HGB.out | exact HGDD.out)); have e2 := gqcell hW m2 (.inr (by first | exact HGB.out | exact HGDD.out)); clear hW; go_simp; try rfl)
    simp only [ly]
    refine tkJ 4 56 hS0 ?_; simp only [ly]
    refine tkI 5 57 ?v198 rfl rfl hS0 ?hy198 ?_
    case hy198 => (intro W hW; have e0 := gqcell hW m5 (.inr (by first | exact HGB.out | exact HGDD.out)); have e1 := gqcell hW m0 (.inr (by first | exact HGB.out | exact HGDD.out)); have e2 := gqcell hW m2 (.inr (by first | exact HGB.out | exact HGDD.out)); clear hW; go_simp; try rfl)
    simp only [ly]
    refine tkJ 6 58 hS0 ?_; simp only [ly]
    refine tkI 7 59 ?v200 rfl rfl hS0 ?hy200 ?_
    case hy200 => (intro W hW; have e0 := gqcell hW m5 (.inr (by first | exact HGB.out | exact HGDD.out)); have e1 := gqcell hW m0 (.inr (by first | exact HGB.out | exact HGDD.out)); have e2 := gqcell hW m2 (.inr (by first | exact HGB.out | exact HGDD.out)); clear hW; go_simp; try rfl)
    simp only [ly]
    refine wpAnyH_ready (rs := [8]) (by kernel_rfl) (by simp) ?_
    refine AllReadyH.cons rfl (fun K hK => ?_) AllReadyH.nil
    go_simp
    go_at_call 46
    refine (thing16_3 D k h t1 t2 t3 cl op S G f nm _ HXU.out (Nat.le_trans HK.out (by decide)) HZS.out HT.out).mono ?_
    rintro e w1 ⟨rfl, hq, hp⟩
    rw [HRB.out]
    have HP := hide (hp HRB.out)
    clear hp
    refine hK.out _ _ ?hs201 (fun hS1 => ?_)
    case hs201 => exact GQ.trans hS0 hq
    clear hK K
    try simp only [ly]
    refine tkJ 9 4 hS1 ?_; simp only [ly]
    refine wpAnyH_done (by kernel_rfl) ?_ _
    have HQ := hide hS1
    go_wp2
    go_ret
    exact ⟨by rw [HRB.out]; rfl, GQ.bel HB.out HQ.out HNW.out HGND.out, HKD.out.gq HBD.out.2.1 HQ.out, fun _ => ⟨_, _, _, _, _, BD.gq HBD.out HQ.out (HP.out.mono (by omega))⟩⟩
  ·go_simp
   have bq := bel1 x1 (.cells #[.string nm] 9)
   have HE := hide (RS.new encSt_len x1 _ rfl [nm] #[.string nm] rfl 9 (0, 0) 1 rfl (by decide))
   replace HX := hide (HX.out.below bq)
   replace HSN := hide (HSN.out.below bq)
   replace HMM := hide (HMM.out.below bq)
   replace HW := hide (HW.out.below bq)
   replace HXD := hide (HXD.out.below bq)
   replace HKD := hide (HKD.out.next bq)
   replace HB := hide (HB.out.trans (bq.mono HNW.out))
   have hNw := Nat.le_trans HNW.out bq.size
   clear bq z0 d2 HNW
   have HNW := hide hNw
   clear hNw
   generalize x1.alloc (.cells #[.string nm] 9) = x6 at *
   have z0 := HX.out.cell 2 _ rfl
   have d2 := HXD.out.cell 2 _ rfl
   first | (refine hK _ _ ?_; clear hK K) | skip
   try simp only [ly]
   refine wpAny_ready (rs := [5]) (by kernel_rfl) (by simp) ?_
   refine AllReady.cons rfl (fun K hK => ?_) AllReady.nil
   go_simp
   first | (refine hK _ _ ?_; clear hK K) | skip
   try simp only [ly]
   refine wpAny_ready (rs := [9]) (by kernel_rfl) (by simp) ?_
   refine AllReady.cons rfl (fun K hK => ?_) AllReady.nil
   refine append_wh _ _ 25 rfl Tryz.underlying25 Tryz.infoSt rfl (by decide) (by decide) encSt_len encSt_one N _ r.2.2.1 [nm] rfl HW.out.1.2.2.1 ⟨_, 0, none⟩ 1 1 rfl (by decide) HE.out (by have h9 := HLN.out; simp only [List.length_singleton]; omega) HNW.out ?_
   intro v7 x7 ho hgr hbel hwh
   obtain ⟨p7, c7, hv7, _, _⟩ := ho.open encSt_len
   obtain ⟨n7, hn7⟩ : ∃ n7, (r.2.2.1 ++ [nm]).length = n7 := ⟨_, rfl⟩
   rw [hn7] at hv7
   subst hv7
   clear hn7
   have HB7 : Hid (Below N w0 x7) := hbel w0 HB.out
   replace HX := hide (HX.out.grown hgr (OwnR.off HW.out.1.2.2.1 HX.out (by decide)))
   replace HXD := hide (HXD.out.grown hgr (OwnR.off HW.out.1.2.2.1 HXD.out (by decide)))
   replace HKD := hide (HKD.out.grown HW.out.1.2.2.1 (by decide) hgr)
   replace HSN := hide (HSN.out.grown HW.out.1.2.2.1 (by decide) hgr)
   replace HMM := hide (HMM.out.grown HW.out.1.2.2.1 hgr)
   have HNW7 := hide (Nat.le_trans HNW.out hgr.size)
   replace HW := hide (HW.out.str3 ho hgr hwh)
   clear ho hgr hbel hwh HE z0 d2 HB HNW
   have z0 := HX.out.cell 2 _ rfl
   have y0 := HX.out.free 2
   have d0 := HXD.out.cell 0 _ rfl
   have d2 := HXD.out.cell 2 _ rfl
   change K (Act.put _ (some 48) _) _
   first | (refine hK _ _ ?_; clear hK K) | skip
   try simp only [ly]
   refine takeP 10 49 ?v203 rfl rfl (by kernel_rfl) (by kernel_rfl) (by kernel_rfl) (fun _ _ _ h => h) (by kernel_rfl) ?hy203 ?_
   case hy203 => (intro W; go_simp; try rfl)
   simp only [ly]
   refine takeP 11 50 ?v204 rfl rfl (by kernel_rfl) (by kernel_rfl) (by kernel_rfl) (fun _ _ _ h => h) (by kernel_rfl) ?hy204 ?_
   case hy204 => (intro W; go_simp; try rfl)
   simp only [ly]
   refine takeP 12 51 ?v205 rfl rfl (by kernel_rfl) (by kernel_rfl) (by kernel_rfl) (fun _ _ _ h => h) (by kernel_rfl) ?hy205 ?_
   case hy205 => (intro W; go_simp; try rfl)
   simp only [ly]
   refine wpAny_ready (rs := [13]) (by kernel_rfl) (by simp) ?_
   refine AllReady.cons rfl (fun K hK => ?_) AllReady.nil
   go_simp
   first | (refine hK _ _ ?_; clear hK K) | skip
   try simp only [ly]
   refine wpAny_done (by kernel_rfl) ?_ _
   have HX0 := hide HX.out
   replace HKD := hide (HKD.out.set HX0.out 2 (.slice p7 n7 c7))
   replace HX := hide (HX0.out.set 2 (.slice p7 n7 c7))
   replace HXD : Hid (BX (x7.setCell ⟨gb, 2, none⟩ (.slice p7 n7 c7)) gd #[.int .i64 3, .bool st, .string nm, .string ot, .int .i64 n, .slice p m c, .int .i64 ln] 38) := BX.other HXD.out (Ne.symm HGD.out) 2 (.slice p7 n7 c7)
   replace HSN := hide (SN.set HSN.out (.inr HGB.out) 2 (.slice p7 n7 c7))
   replace HMM := hide (HMM.out.set HGM.out 2 (.slice p7 n7 c7))
   replace HW := hide (RW.set HW.out HX0.out ty_bld 2 (.slice p7 n7 c7))
   have HB : Hid (Below N w0 (x7.setCell ⟨gb, 2, none⟩ (.slice p7 n7 c7))) := HB7.out.setCell (p := ⟨gb, 2, none⟩) HGN.out (.slice p7 n7 c7)
   have HNW : Hid (N ≤ (x7.setCell ⟨gb, 2, none⟩ (.slice p7 n7 c7)).heap.size) := by unfold Hid; simpa [World.setCell] using HNW7.out
   have e5 : (x7.setCell ⟨gb, 2, none⟩ (.slice p7 n7 c7)).cell? ⟨gb, 5, none⟩ = some (.pointer (some ⟨D + 3, 0, none⟩)) := HX.out.cell 5 _ rfl
   have e0 := HXD.out.cell 0 _ rfl
   have e2 := HXD.out.cell 2 _ rfl
   clear z0 y0 d0 d2 HB7 HNW7 HX0
   go_upto_region 8 with fail
   generalize x7.setCell ⟨gb, 2, none⟩ (.slice p7 n7 c7) = u at *
   have HBD : Hid (BD N u gb D M h k ((t1, t2, t3, cl, op), S, G, f) fn v1 v2 (.slice p7 n7 c7) v4 v5 (r.1, r.2.1, r.2.2.1 ++ [nm], r.2.2.2)) := ⟨HX.out, HSN.out, HMM.out, HW.out, HGB.out, HGMD.out, HGMN.out, HNW.out⟩
   have HXU : Hid (SN u.drew D h k ((t1, t2, t3, cl, op), S, G, f)) := HSN.out.below (Below.refl u.heap.size u).drew
   have m5 := e5
   have m0 := e0
   have m2 := e2
   clear e5 e0 e2
   rcases hb : thB3 t3 S nm with _ | _
   ·have HRB := hide hb
    clear hb
    refine wp_region_held_drew (S := fun W => GQ 4 D u W) (by kernel_rfl) ((GQ.refl 4 D u).drew) (fun hS0 => ?_)
    refine tkJ 0 52 hS0 ?_; simp only [ly]
    refine tkJ 1 53 hS0 ?_; simp only [ly]
    refine tkJ 2 54 hS0 ?_; simp only [ly]
    refine tkI 3 55 ?v209 rfl rfl hS0 ?hy209 ?_
    case hy209 => (intro W hW; have e0 := gqcell hW m5 (.inr (by first | exact HGB.out | exact HGDD.out)); have e1 := gqcell hW m0 (.inr (by first | exact HGB.out | exact HGDD.out)); have e2 := gqcell hW m2 (.inr (by first | exact HGB.out | exact HGDD.out)); clear hW; go_simp; try rfl)
    simp only [ly]
    refine tkJ 4 56 hS0 ?_; simp only [ly]
    refine tkI 5 57 ?v211 rfl rfl hS0 ?hy211 ?_
    case hy211 => (intro W hW; have e0 := gqcell hW m5 (.inr (by first | exact HGB.out | exact HGDD.out)); have e1 := gqcell hW m0 (.inr (by first | exact HGB.out | exact HGDD.out)); have e2 := gqcell hW m2 (.inr (by first | exact HGB.out | exact HGDD.out)); clear hW; go_simp; try rfl)
    simp only [ly]
    refine tkJ 6 58 hS0 ?_; simp only [ly]
    refine tkI 7 59 ?v213 rfl rfl hS0 ?hy213 ?_
    case hy213 => (intro W hW; have e0 := gqcell hW m5 (.inr (by first | exact HGB.out | exact HGDD.out)); have e1 := gqcell hW m0 (.inr (by first | exact HGB.out | exact HGDD.out)); have e2 := gqcell hW m2 (.inr (by first | exact HGB.out | exact HGDD.out)); clear hW; go_simp; try rfl)
    simp only [ly]
    refine wpAnyH_ready (rs := [8]) (by kernel_rfl) (by simp) ?_
    refine AllReadyH.cons rfl (fun K hK => ?_) AllReadyH.nil
    go_simp
    go_at_call 46
    refine (thing16_3 D k h t1 t2 t3 cl op S G f nm _ HXU.out (Nat.le_trans HK.out (by decide)) HZS.out HT.out).mono ?_
    rintro e w1 ⟨rfl, hq, hp⟩
    rw [HRB.out]
    clear hp
    refine hK.out _ _ ?hs214 (fun hS1 => ?_)
    case hs214 => exact GQ.trans hS0 hq
    clear hK K
    try simp only [ly]
    refine tkJ 9 4 hS1 ?_; simp only [ly]
    refine wpAnyH_done (by kernel_rfl) ?_ _
    have HQ := hide hS1
    go_wp2
    go_ret
    exact ⟨by rw [HRB.out]; rfl, GQ.bel HB.out HQ.out HNW.out HGND.out, HKD.out.gq HBD.out.2.1 HQ.out, fun hh => by rw [HRB.out] at hh; cases hh⟩
   ·have HRB := hide hb
    clear hb
    refine wp_region_held_drew (S := fun W => GQ 4 D u W) (by kernel_rfl) ((GQ.refl 4 D u).drew) (fun hS0 => ?_)
    refine tkJ 0 52 hS0 ?_; simp only [ly]
    refine tkJ 1 53 hS0 ?_; simp only [ly]
    refine tkJ 2 54 hS0 ?_; simp only [ly]
    refine tkI 3 55 ?v219 rfl rfl hS0 ?hy219 ?_
    case hy219 => (intro W hW; have e0 := gqcell hW m5 (.inr (by first | exact HGB.out | exact HGDD.out)); have e1 := gqcell hW m0 (.inr (by first | exact HGB.out | exact HGDD.out)); have e2 := gqcell hW m2 (.inr (by first | exact HGB.out | exact HGDD.out)); clear hW; go_simp; try rfl)
    simp only [ly]
    refine tkJ 4 56 hS0 ?_; simp only [ly]
    refine tkI 5 57 ?v221 rfl rfl hS0 ?hy221 ?_
    case hy221 => (intro W hW; have e0 := gqcell hW m5 (.inr (by first | exact HGB.out | exact HGDD.out)); have e1 := gqcell hW m0 (.inr (by first | exact HGB.out | exact HGDD.out)); have e2 := gqcell hW m2 (.inr (by first | exact HGB.out | exact HGDD.out)); clear hW; go_simp; try rfl)
    simp only [ly]
    refine tkJ 6 58 hS0 ?_; simp only [ly]
    refine tkI 7 59 ?v223 rfl rfl hS0 ?hy223 ?_
    case hy223 => (intro W hW; have e0 := gqcell hW m5 (.inr (by first | exact HGB.out | exact HGDD.out)); have e1 := gqcell hW m0 (.inr (by first | exact HGB.out | exact HGDD.out)); have e2 := gqcell hW m2 (.inr (by first | exact HGB.out | exact HGDD.out)); clear hW; go_simp; try rfl)
    simp only [ly]
    refine wpAnyH_ready (rs := [8]) (by kernel_rfl) (by simp) ?_
    refine AllReadyH.cons rfl (fun K hK => ?_) AllReadyH.nil
    go_simp
    go_at_call 46
    refine (thing16_3 D k h t1 t2 t3 cl op S G f nm _ HXU.out (Nat.le_trans HK.out (by decide)) HZS.out HT.out).mono ?_
    rintro e w1 ⟨rfl, hq, hp⟩
    rw [HRB.out]
    have HP := hide (hp HRB.out)
    clear hp
    refine hK.out _ _ ?hs224 (fun hS1 => ?_)
    case hs224 => exact GQ.trans hS0 hq
    clear hK K
    try simp only [ly]
    refine tkJ 9 4 hS1 ?_; simp only [ly]
    refine wpAnyH_done (by kernel_rfl) ?_ _
    have HQ := hide hS1
    go_wp2
    go_ret
    exact ⟨by rw [HRB.out]; rfl, GQ.bel HB.out HQ.out HNW.out HGND.out, HKD.out.gq HBD.out.2.1 HQ.out, fun _ => ⟨_, _, _, _, _, BD.gq HBD.out HQ.out (HP.out.mono (by omega))⟩⟩
end Go.Proofs.YtomppblgalepjaaGreatDoor

