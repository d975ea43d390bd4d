/- Texts of this claim, joined: A6, C1. -/
import Derived.Test.YtkbbegbpkndebaaGreatJ4
import Derived.Test.YtkbbegbpkndebaaGreatJ8
/- A set with a key's dots put, by the program (layer 8). -/
namespace Go.Proofs.YtkbbegbpkndebaaGreat
open Go.RowKit Go.Lib
set_option linter.unusedVariables false
theorem DC.nil (w : World) : DC w (none, 0, 0) [] := ⟨DS.nil _ _, Nat.le_refl _, by decide, fun _ => rfl⟩
theorem ON.blk {N : Nat} {w : World} {V : Value} {es : List En} (h : ON N w V es) : ∀ g, V.ownBlock = some g → g < w.heap.size := by
 intro g hg
 obtain ⟨xs, ⟨_, h1⟩, _⟩ := h
 rcases h1 with ⟨rfl, _⟩ | ⟨g', cap, cur, rfl, _, h3, _⟩
 ·simp [Value.ownBlock] at hg
 ·simp only [Value.ownBlock, Option.some.injEq] at hg
  subst hg
  exact (Array.getElem?_eq_some_iff.1 h3).1
set_option maxHeartbeats 4000000 in
set_option maxRecDepth 100000 in
theorem copies_any (N : Nat) (V : Value) (es : List En) (a : Option Addr) (n cap : Nat) (fs : List En) (w0 w : World) (hO : ON N w V es) (hA : NSS w0 a n fs) (h0 : w0.heap.size ≤ N) (hb0 : Below w0.heap.size w0 w) (hN : N ≤ w.heap.size) (hd : ∀ x ∈ fs, x.2.2 = [] ∧ x.2.1.length ≤ 1000000) (hbig : es.length + n ≤ 900000) :
  Calls Tryz.prog 218 #[V, .slice a n cap] w fun e w' => ∃ v, e = .returned v ∧ ON N w' v (es ++ fs) ∧ Below N w w' := by
 have HV : Hid (∀ W, Below N w W → NSS W a n fs) := fun W hW => hA.below (hb0.trans (hW.mono h0))
 have HLEN := hide hA.len
 have hmx := hA.max
 unfold maxLen at hmx
 have HNW := hide hN
 have HBIG := hide hbig
 have HDD := hide hd
 have HO0 := hide hO
 clear hA h0 hb0 hN hd hO
 go_enter Tryz.func218, Tryz.ntmps218
 go_wp2
 go_loopw [0, 9] (fun V i wr => ∃ k : Nat, k ≤ n ∧ i = .int .i64 k ∧ Hid (ON N wr V (es ++ fs.take k)) ∧ Hid (Below N w wr)) (fun _ i _ => n - (intOf i).toNat)
 case atStart => exact ⟨0, by omega, rfl, (show Hid _ by simpa using HO0), Below.refl _ _⟩
 case round =>
  clear HO0
  obtain ⟨k0, hk, rfl, HO, HB⟩ := hrel
  by_cases hlt : k0 < n
  ·obtain ⟨b, off, rfl⟩ := (HV.out _ HB.out).addr (by omega)
   obtain ⟨k, pl, nl, cl, pd, nd, cd, ll, mm, hx, c0, c1, c2, hl1, hl2, _, _⟩ := (HV.out _ HB.out).at k0 hlt
   have HX := hide hx
   have hk0 : (0 : Int) ≤ (k0 : Int) := by omega
   have hk1 : (k0 : Int) < (n : Int) := by omega
   have HMM := hide (HDD.out _ (List.mem_of_getElem? hx))
   have hnl : nl ≤ 1000000 := by rw [← hl1.1]; exact HMM.out.2
   clear hx
   go_upto_region 4 with fail
   have HBU := hide (bel1 wr (.cells #[.string k, .slice pl nl cl, .slice pd nd cd] 125))
   have HBX := hide (BX.new wr _ rfl #[.string k, .slice pl nl cl, .slice pd nd cd] 125)
   have HL := hide (hl1.below HBU.out)
   have HBU2 : Hid (Below N w (wr.alloc (.cells #[.string k, .slice pl nl cl, .slice pd nd cd] 125))) := HB.out.alloc (Nat.le_trans HNW.out (HB.out.mono (Nat.zero_le _)).size) _
   have HOB : Hid (u0.ownBlock ≠ some wr.heap.size) := fun e => by have := HO.out.blk _ e; omega
   replace HO := hide (HO.out.below HBU.out)
   have HNU : Hid (N ≤ (wr.alloc (.cells #[.string k, .slice pl nl cl, .slice pd nd cd] 125)).heap.size) := Nat.le_trans HNW.out (HBU2.out.mono (Nat.zero_le _)).size
   generalize hgb : wr.heap.size = gb at *
   clear hgb c0 c1 c2 HB hl1 hl2
   have HBU : Hid (Below N w (wr.alloc (.cells #[.string k, .slice pl nl cl, .slice pd nd cd] 125)).drew) := HBU2.out.drew
   generalize wr.alloc (.cells #[.string k, .slice pl nl cl, .slice pd nd cd] 125) = u at *
   refine wp_region_held_drew (S := fun W => BX W gb #[.string k, .slice pl nl cl, .slice pd nd cd] 125) (by kernel_rfl) (HBX.out.drew) (fun hS0 => ?_)
   refine tkJ 0 13 hS0 ?_; simp only [ly]
   refine tkJ 1 14 hS0 ?_; simp only [ly]
   refine tkL 2 15 hS0 ?h ?_; case h => (intro W hW; have e0 := hW.cell 0 _ rfl; have e1 := hW.cell 1 _ rfl; have e2 := hW.cell 2 _ rfl; clear hW; go_simp; try rfl); simp only [ly]
   refine tkJ 3 16 hS0 ?_; simp only [ly]
   refine tkL 4 17 hS0 ?h ?_; case h => (intro W hW; have e0 := hW.cell 0 _ rfl; have e1 := hW.cell 1 _ rfl; have e2 := hW.cell 2 _ rfl; clear hW; go_simp; try rfl); simp only [ly]
   refine wpAnyH_ready (rs := [5]) (by kernel_rfl) (by simp) ?_
   refine AllReadyH.cons rfl (fun K hK => ?_) AllReadyH.nil
   go_simp
   refine (cloneD_any pl nl cl ll _ (HL.out.below (Below.refl _ u).drew) (by omega)).mono ?_
   rintro e w1 ⟨v1, rfl, ho1, hb1⟩
   have B1 := hide (bel_next (Below.refl _ u).drew hb1)
   have O1 := hide ho1
   have BW := hS0.below hb1
   obtain ⟨p1, c1, rfl, hds1, hcp1⟩ := ho1.open
   have HD1 := hide hds1
   have HC1 := hide hcp1
   clear ho1 hb1 hds1 hcp1
   refine hK.out _ _ ?hs6 (fun hS1 => ?_)
   case hs6 => exact BW
   clear hK K
   try simp only [ly]
   refine tkJ 6 19 hS1 ?_; simp only [ly]
   refine wpAnyH_ready (rs := [7]) (by kernel_rfl) (by simp) ?_
   refine AllReadyH.cons rfl (fun K hK => ?_) AllReadyH.nil
   go_simp
   have hrs := RSN.one w1 (k, (p1, ll.length, c1), (none, 0, 0)) w1.heap.size rfl 125 (0, 0)
   have HRS := hide hrs
   clear hrs BW
   have B2 := hide (bel_next B1.out (bel1 w1 (.cells #[.string k, .slice p1 ll.length c1, .slice none 0 0] 125)))
   have BW := hS1.alloc (.cells #[.string k, .slice p1 ll.length c1, .slice none 0 0] 125)
   have O2 := hide (O1.out.alloc (.cells #[.string k, .slice p1 ll.length c1, .slice none 0 0] 125))
   have HD2 := hide (HD1.out.alloc (.cells #[.string k, .slice p1 ll.length c1, .slice none 0 0] 125))
   generalize hgw : w1.heap.size = gw at *
   clear hgw
   generalize w1.alloc (.cells #[.string k, .slice p1 ll.length c1, .slice none 0 0] 125) = w2 at *
   refine hK.out _ _ ?hs8 (fun hS2 => ?_)
   case hs8 => exact BW
   clear hK K
   try simp only [ly]
   refine wpAnyH_ready (rs := [8]) (by kernel_rfl) (by simp) ?_
   refine AllReadyH.cons rfl (fun K hK => ?_) AllReadyH.nil
   rw [if_pos (by kernel_rfl)]
   refine append_enw _ _ rfl N u0 (es ++ fs.take k0) [(k, ll, [])] rfl (HO.out.below B2.out) (some ⟨gw, 0, none⟩) 1 1 rfl (fun h => by cases h) [(k, (p1, ll.length, c1), (none, 0, 0))] HRS.out (Rels.one ⟨rfl, ⟨HD2.out, HC1.out⟩, DC.nil _⟩) (fun y hy => by
    rw [List.mem_singleton] at hy
    subst hy
    exact ⟨Lo.own O2.out, Lo.none _ _⟩) (by have := HBIG.out; simp only [List.length_append, List.length_take, List.length_singleton]; omega) (Nat.le_trans HNW.out (Nat.le_trans HBU.out.size B2.out.size)) ?_
   intro v3 w3 ho3 hgr3 hbel3
   have O3 := hide ho3
   have BW := hS2.grown hgr3 HOB.out
   have B3 : Hid (Below N w w3) := hbel3 _ (HBU2.out.trans (B2.out.mono HNU.out))
   clear ho3 hgr3 hbel3
   change K (Act.put _ (some 21) _) _
   refine hK.out _ _ ?hs9 (fun hS3 => ?_)
   case hs9 => exact BW
   clear hK K
   try simp only [ly]
   refine tkI 9 0 ?v10 rfl rfl hS3 ?hy10 ?_
   case hy10 => (intro W hW; clear hW; go_simp; try rfl)
   simp only [Act.put, List.setIfInBounds_toArray, List.set_cons_zero]
   refine wpAnyH_done (by kernel_rfl) ?_ _
   have HX2 : Hid (es ++ fs.take k0 ++ [(k, ll, [])] = es ++ fs.take (k0 + 1)) := by
    have q := HMM.out.1
    simp only at q
    unfold Hid
    rw [take_snocL HX.out, q, List.append_assoc]
   rw [HX2.out] at O3
   go_wp2
   go_roundw
   case rel => exact ⟨k0 + 1, by omega, by go_num, O3, B3⟩
   case measure => simp [intOf]; omega
  ·obtain rfl : k0 = n := by omega
   have HOE : Hid (ON N wr u0 (es ++ fs)) := by have := HO.out; rwa [← HLEN.out, List.take_length] at this
   clear HO
   go_wp2
   go_ret
   exact ⟨_, rfl, HOE.out, HB.out⟩
set_option maxHeartbeats 4000000 in
set_option maxRecDepth 100000 in
theorem with_any (a : Option Addr) (n cap : Nat) (s : List En) (t : ByteArray) (pv : Option Addr) (nv cv : Nat) (l : List Dot) (w : World) (hA : NSS w a n s) (hcp : CP a n cap) (hm : mayS s = true) (hL : DS w pv nv l) (hcl : CP pv nv cv) (hd : ∀ x ∈ s, x.2.1.length ≤ 1000000) :
  Calls Tryz.prog 194 #[.slice a n cap, .string t, .slice pv nv cv] w fun e w' => ∃ v, e = .returned v ∧ ON w.heap.size w' v (putS s t l) ∧ Below w.heap.size w w' := by
 obtain ⟨hm1, hm2, hm3⟩ := mayS_iff.1 hm
 have HV := hide hA
 have HLEN := hide hA.len
 have HS := hide hm2
 have hn : n ≤ 4000 := by rw [← hA.len]; exact hm3
 have HDD : Hid (∀ x ∈ s, x.2.2 = [] ∧ x.2.1.length ≤ 1000000) := fun x hx => ⟨(mayN_iff.1 (hm1 x hx)).2.2.1, hd x hx⟩
 have hnc := hcp.1
 have HCP := hide hcp
 have HL := hide hL
 have HCL := hide hcl
 have HPL := hide (place_any a n cap s t w hA hm2 hn)
 clear hA hm1 hm2 hm3 hm hd hcp hL hcl
 go_enter Tryz.func194, Tryz.ntmps194
 go_upto_region 2 with (go_at_call 217; refine HPL.out.mono ?_; rintro e w1 ⟨⟨i, rfl, hp⟩, hb⟩)
 have HP := hide hp
 have HB := hide hb
 have hin : i ≤ n := by rw [← HLEN.out]; exact hp.1
 clear hp hb HPL
 have HC1 := hide (copies_any w.heap.size (.slice none 0 0) [] a i cap (s.take i) w w1 (ON.nil _ _) (HV.out.head i hin) (Nat.le_refl _) HB.out HB.out.size (fun x hx => HDD.out x (List.mem_of_mem_take hx)) (by simp; omega))
 rcases ht : thereB s t i with _ | _
 ·have HG := hide (place_not HS.out HP.out (fun x hx e => by unfold thereB at ht; rw [hx] at ht; simp [e] at ht) l).2
  have hbh : i ≤ n := by omega
  have hi0 : (0 : Int) ≤ (i : Int) := by omega
  have hi1 : (i : Int) ≤ (cap : Int) := by omega
  have hi2 : ((i : Int)) + 1 ≤ (cap : Int) ∨ True := .inr trivial
  clear hi2
  have hb1 : (i : Int) ≤ (n : Int) := by omega
  go_upto_region 6 with (go_at_call 218; refine HC1.out.mono ?_; rintro e w2 ⟨v2, rfl, ho2, hb2'⟩)
  have HO2 := hide ho2
  have HB2 : Hid (Below w.heap.size w w2) := HB.out.trans hb2'
  clear ho2 hb2' HC1
  rw [List.nil_append] at HO2
  have HNL := hide HL.out.1
  rcases Nat.eq_zero_or_pos nv with hnv | hnv
  ·obtain rfl : l = [] := List.eq_nil_of_length_eq_zero (by rw [HNL.out, hnv])
   rw [if_pos rfl, List.append_nil] at HG
   subst hnv
   have HO3 := HO2
   have HB3 := HB2
   clear HO2 HB2
   by_cases hlast : i < n
   ·obtain ⟨b, off, rfl⟩ := HV.out.addr (by omega)
    have hne : ¬ (cap = i) := by omega
    have hne2 : ¬ ((cap : Int) = (i : Int)) := by omega
    go_wp2_with (go_at_call 218; refine (copies_any w.heap.size _ _ _ _ _ (s.drop (i)) w _ HO3.out (HV.out.mid (i) (by omega)) (Nat.le_refl _) HB3.out HB3.out.size (fun x hx => HDD.out x (List.mem_of_mem_drop hx)) (by simp [HLEN.out]; omega)).mono ?_; rintro e w4 ⟨v4, rfl, ho4, hb4⟩)
    all_goals (go_ret; exact ⟨_, rfl, by rw [HG.out]; exact ho4, HB3.out.trans hb4⟩)
   ·obtain rfl : i = n := by omega
    go_wp2_with (go_at_call 218; refine (copies_any w.heap.size _ _ _ _ _ (s.drop (i)) w _ HO3.out (by rw [List.drop_eq_nil_of_le (by rw [HLEN.out]; exact Nat.le_refl _)]; first | exact NSS.nil _ _ | (rw [Nat.sub_self]; exact NSS.nil _ _)) (Nat.le_refl _) HB3.out HB3.out.size (fun x hx => HDD.out x (List.mem_of_mem_drop hx)) (by simp [HLEN.out]; omega)).mono ?_; rintro e w4 ⟨v4, rfl, ho4, hb4⟩)
    all_goals (go_ret; exact ⟨_, rfl, by rw [HG.out]; exact ho4, HB3.out.trans hb4⟩)
  ·have hle : l ≠ [] := by
    intro h
    rw [h] at HNL
    have := HNL.out
    simp at this
    omega
   rw [if_neg hle] at HG
   clear hle
   have hnv' : (0 : Int) < (nv : Int) := by omega
   go_wp2_with (at_builtin; refine Stop.at ?_)
   unfold Stop
   have HB2' := hide (bel1 w2 (.cells #[.string t, .slice pv nv cv, .slice none 0 0] 125))
   have HBX := hide (bel_next HB2.out HB2'.out)
   refine append_en rfl _ _ rfl w.heap.size _ (s.take i) [(t, l, [])] rfl (HO2.out.below HB2'.out) (some ⟨w2.heap.size, 0, none⟩) 1 1 rfl (fun h => by cases h) [(t, (pv, nv, cv), (none, 0, 0))] (RSN.one w2 (t, (pv, nv, cv), (none, 0, 0)) _ rfl 125 (0, 0)) (Rels.one ⟨rfl, ⟨HL.out.below HBX.out, HCL.out⟩, DC.nil _⟩) (fun y hy => by
    rw [List.mem_singleton] at hy
    subst hy
    exact ⟨Lo.old HL.out (Nat.le_refl _) HBX.out.size, Lo.none _ _⟩) (by simp [HLEN.out]; omega) HBX.out.size ?_
   intro v3 w3 ho3 _ hbel3
   have HO3 := hide ho3
   have HB3 := hide (hbel3 _ HBX.out)
   clear ho3 hbel3 HBX HB2 HO2 HB2'
   by_cases hlast : i < n
   ·obtain ⟨b, off, rfl⟩ := HV.out.addr (by omega)
    have hne : ¬ (cap = i) := by omega
    have hne2 : ¬ ((cap : Int) = (i : Int)) := by omega
    go_wp2_with (go_at_call 218; refine (copies_any w.heap.size _ _ _ _ _ (s.drop (i)) w _ HO3.out (HV.out.mid (i) (by omega)) (Nat.le_refl _) HB3.out HB3.out.size (fun x hx => HDD.out x (List.mem_of_mem_drop hx)) (by simp [HLEN.out]; omega)).mono ?_; rintro e w4 ⟨v4, rfl, ho4, hb4⟩)
    all_goals (go_ret; exact ⟨_, rfl, by rw [HG.out]; exact ho4, HB3.out.trans hb4⟩)
   ·obtain rfl : i = n := by omega
    go_wp2_with (go_at_call 218; refine (copies_any w.heap.size _ _ _ _ _ (s.drop (i)) w _ HO3.out (by rw [List.drop_eq_nil_of_le (by rw [HLEN.out]; exact Nat.le_refl _)]; first | exact NSS.nil _ _ | (rw [Nat.sub_self]; exact NSS.nil _ _)) (Nat.le_refl _) HB3.out HB3.out.size (fun x hx => HDD.out x (List.mem_of_mem_drop hx)) (by simp [HLEN.out]; omega)).mono ?_; rintro e w4 ⟨v4, rfl, ho4, hb4⟩)
    all_goals (go_ret; exact ⟨_, rfl, by rw [HG.out]; exact ho4, HB3.out.trans hb4⟩)
 ·obtain ⟨x, hx, he⟩ : ∃ x, s[i]? = some x ∧ x.1 = t := by
   unfold thereB at ht
   split at ht
   ·cases ht
   ·exact ⟨_, by assumption, by simpa using ht⟩
  have HG := hide (place_there HS.out HP.out hx he l).2
  have hin2 : i < n := by rw [← HLEN.out]; exact (List.getElem?_eq_some_iff.1 hx).1
  clear hx he x
  have hbh : i + 1 ≤ n := by omega
  have hi0 : (0 : Int) ≤ (i : Int) := by omega
  have hi1 : (i : Int) ≤ (cap : Int) := by omega
  have hi2 : ((i : Int)) + 1 ≤ (cap : Int) ∨ True := .inr trivial
  clear hi2
  have hb1 : (i : Int) + 1 ≤ (n : Int) := by omega
  have hb2 : (i : Int) + 1 ≤ (cap : Int) := by omega
  go_upto_region 6 with (go_at_call 218; refine HC1.out.mono ?_; rintro e w2 ⟨v2, rfl, ho2, hb2'⟩)
  have HO2 := hide ho2
  have HB2 : Hid (Below w.heap.size w w2) := HB.out.trans hb2'
  clear ho2 hb2' HC1
  rw [List.nil_append] at HO2
  have HNL := hide HL.out.1
  rcases Nat.eq_zero_or_pos nv with hnv | hnv
  ·obtain rfl : l = [] := List.eq_nil_of_length_eq_zero (by rw [HNL.out, hnv])
   rw [if_pos rfl, List.append_nil] at HG
   subst hnv
   have HO3 := HO2
   have HB3 := HB2
   clear HO2 HB2
   by_cases hlast : i + 1 < n
   ·obtain ⟨b, off, rfl⟩ := HV.out.addr (by omega)
    have hne : ¬ (cap = i + 1) := by omega
    have hne2 : ¬ ((cap : Int) = (i : Int) + 1) := by omega
    go_wp2_with (go_at_call 218; refine (copies_any w.heap.size _ _ _ _ _ (s.drop (i + 1)) w _ HO3.out (HV.out.mid (i + 1) (by omega)) (Nat.le_refl _) HB3.out HB3.out.size (fun x hx => HDD.out x (List.mem_of_mem_drop hx)) (by simp [HLEN.out]; omega)).mono ?_; rintro e w4 ⟨v4, rfl, ho4, hb4⟩)
    all_goals (go_ret; exact ⟨_, rfl, by rw [HG.out]; exact ho4, HB3.out.trans hb4⟩)
   ·obtain rfl : i + 1 = n := by omega
    go_wp2_with (go_at_call 218; refine (copies_any w.heap.size _ _ _ _ _ (s.drop (i + 1)) w _ HO3.out (by rw [List.drop_eq_nil_of_le (by rw [HLEN.out]; exact Nat.le_refl _)]; first | exact NSS.nil _ _ | (rw [Nat.sub_self]; exact NSS.nil _ _)) (Nat.le_refl _) HB3.out HB3.out.size (fun x hx => HDD.out x (List.mem_of_mem_drop hx)) (by simp [HLEN.out]; omega)).mono ?_; rintro e w4 ⟨v4, rfl, ho4, hb4⟩)
    all_goals (go_ret; exact ⟨_, rfl, by rw [HG.out]; exact ho4, HB3.out.trans hb4⟩)
  ·have hle : l ≠ [] := by
    intro h
    rw [h] at HNL
    have := HNL.out
    simp at this
    omega
   rw [if_neg hle] at HG
   clear hle
   have hnv' : (0 : Int) < (nv : Int) := by omega
   go_wp2_with (at_builtin; refine Stop.at ?_)
   unfold Stop
   have HB2' := hide (bel1 w2 (.cells #[.string t, .slice pv nv cv, .slice none 0 0] 125))
   have HBX := hide (bel_next HB2.out HB2'.out)
   refine append_en rfl _ _ rfl w.heap.size _ (s.take i) [(t, l, [])] rfl (HO2.out.below HB2'.out) (some ⟨w2.heap.size, 0, none⟩) 1 1 rfl (fun h => by cases h) [(t, (pv, nv, cv), (none, 0, 0))] (RSN.one w2 (t, (pv, nv, cv), (none, 0, 0)) _ rfl 125 (0, 0)) (Rels.one ⟨rfl, ⟨HL.out.below HBX.out, HCL.out⟩, DC.nil _⟩) (fun y hy => by
    rw [List.mem_singleton] at hy
    subst hy
    exact ⟨Lo.old HL.out (Nat.le_refl _) HBX.out.size, Lo.none _ _⟩) (by simp [HLEN.out]; omega) HBX.out.size ?_
   intro v3 w3 ho3 _ hbel3
   have HO3 := hide ho3
   have HB3 := hide (hbel3 _ HBX.out)
   clear ho3 hbel3 HBX HB2 HO2 HB2'
   by_cases hlast : i + 1 < n
   ·obtain ⟨b, off, rfl⟩ := HV.out.addr (by omega)
    have hne : ¬ (cap = i + 1) := by omega
    have hne2 : ¬ ((cap : Int) = (i : Int) + 1) := by omega
    go_wp2_with (go_at_call 218; refine (copies_any w.heap.size _ _ _ _ _ (s.drop (i + 1)) w _ HO3.out (HV.out.mid (i + 1) (by omega)) (Nat.le_refl _) HB3.out HB3.out.size (fun x hx => HDD.out x (List.mem_of_mem_drop hx)) (by simp [HLEN.out]; omega)).mono ?_; rintro e w4 ⟨v4, rfl, ho4, hb4⟩)
    all_goals (go_ret; exact ⟨_, rfl, by rw [HG.out]; exact ho4, HB3.out.trans hb4⟩)
   ·obtain rfl : i + 1 = n := by omega
    go_wp2_with (go_at_call 218; refine (copies_any w.heap.size _ _ _ _ _ (s.drop (i + 1)) w _ HO3.out (by rw [List.drop_eq_nil_of_le (by rw [HLEN.out]; exact Nat.le_refl _)]; first | exact NSS.nil _ _ | (rw [Nat.sub_self]; exact NSS.nil _ _)) (Nat.le_refl _) HB3.out HB3.out.size (fun x hx => HDD.out x (List.mem_of_mem_drop hx)) (by simp [HLEN.out]; omega)).mono ?_; rintro e w4 ⟨v4, rfl, ho4, hb4⟩)
    all_goals (go_ret; exact ⟨_, rfl, by rw [HG.out]; exact ho4, HB3.out.trans hb4⟩)

end Go.Proofs.YtkbbegbpkndebaaGreat

/- What comes into layer 8's statements; their Light and awake. -/
namespace Go.Proofs.YtkbbegbpkndebaaGreat
open Go.RowKit Go.ChangeShapes Go.WideShapes
set_option linter.unusedVariables false
def dotR : Rl Dot := fun _ cs x => cs = [.int .i64 x.1, .int .i64 x.2]
theorem Tryz.cellsDot : Tryz.prog.cellsOf 33 = 2 := by kernel_rfl
theorem Tryz.cellsEnt : Tryz.prog.cellsOf 125 = 3 := by kernel_rfl
theorem Tryz.cellsI8 : Tryz.prog.cellsOf 3 = 1 := by kernel_rfl
theorem Tryz.cellsS8 : Tryz.prog.cellsOf 9 = 1 := by kernel_rfl
theorem Tryz.cellsD8 : Tryz.prog.cellsOf 123 = 1 := by kernel_rfl
theorem len2N {α : Type} (l : List α) (h : l.length = 2) : ∃ a b, l = [a, b] := by
 match l, h with
 | [a, b], _ => exact ⟨a, b, rfl⟩
theorem len3N {α : Type} (l : List α) (h : l.length = 3) : ∃ a b c, l = [a, b, c] := by
 match l, h with
 | [a, b, c], _ => exact ⟨a, b, c, rfl⟩
set_option maxRecDepth 100000 in
theorem open_dot : Opens 33 dotR := by
 intro H enc W fuel cs y h
 obtain ⟨xs, k, hk, hxy, hcl, hxl, hf⟩ := DataW.trod_struct Tryz.underlying33 h
 rw [Tryz.cellsDot] at hcl
 obtain ⟨v0, v1, rfl⟩ := len2N cs hcl
 obtain ⟨y0, y1, rfl⟩ := len2N xs hxl
 have g0 : DataW.trod enc Tryz.prog W 0 (fun _ => true) true k 3 (([v0, v1].drop 0).take (Tryz.prog.cellsOf 3)) = some y0 := hf 0 _ rfl
 have g1 : DataW.trod enc Tryz.prog W 0 (fun _ => true) true k 3 (([v0, v1].drop 1).take (Tryz.prog.cellsOf 3)) = some y1 := hf 1 _ rfl
 rw [Tryz.cellsI8] at g0 g1
 obtain ⟨a0, h0⟩ := Opens.int Tryz.underlying3 _ _ _ _ _ _ g0
 obtain ⟨a1, h1⟩ := Opens.int Tryz.underlying3 _ _ _ _ _ _ g1
 simp [intR] at h0 h1
 exact ⟨(a0, a1), by rw [h0, h1]; rfl⟩
theorem SR.ds {w : World} {a : Option Addr} {n : Nat} {l : List Dot} (h : SR 2 dotR w a n l) : DS w a n l := by
 obtain ⟨h1, h2, h3⟩ := h
 refine ⟨h1, h2, h3.imp id ?_⟩
 rintro ⟨b, off, ha, hc⟩
 refine ⟨b, off, ha, fun i hi => ?_⟩
 have hl : i < l.length := by rw [h1]; exact hi
 obtain ⟨r, _, hr, hcell⟩ := hc i l[i] (List.getElem?_eq_getElem hl)
 rw [hr] at hcell
 rw [List.getD_eq_getElem?_getD, List.getElem?_eq_getElem hl]
 exact ⟨hcell 0 _ rfl, hcell 1 _ rfl⟩
def entR : Rl En := fun w cs x => ∃ p n c pd nd cd, cs = [.string x.1, .slice p n c, .slice pd nd cd] ∧ (DS w p n x.2.1 ∧ CP p n c) ∧ DS w pd nd x.2.2 ∧ CP pd nd cd
theorem open_dots8 {H : Type} {enc : TypeId × Value → H} {W : World} {fuel : Nat} {v : Value} {y : DataW H × List MemPlace} (h : DataW.trod enc Tryz.prog W 0 (fun _ => true) true fuel 123 [v] = some y) : ∃ (l : List Dot) (a : Option Addr) (n cap : Nat), v = .slice a n cap ∧ DS W a n l ∧ CP a n cap := by
 obtain ⟨l, a, n, cap, hv, h1, h2⟩ := Opens.slice Tryz.underlying123 Tryz.cellsDot (by decide) open_dot (0, 0) _ _ _ _ _ _ h
 exact ⟨l, a, n, cap, by simpa using hv, h1.ds, h2⟩
set_option maxRecDepth 100000 in
theorem open_ent : Opens 125 entR := by
 intro H enc W fuel cs y h
 obtain ⟨xs, k, hk, hxy, hcl, hxl, hf⟩ := DataW.trod_struct Tryz.underlying125 h
 rw [Tryz.cellsEnt] at hcl
 obtain ⟨v0, v1, v2, rfl⟩ := len3N cs hcl
 obtain ⟨y0, y1, y2, rfl⟩ := len3N xs hxl
 have g0 : DataW.trod enc Tryz.prog W 0 (fun _ => true) true k 9 (([v0, v1, v2].drop 0).take (Tryz.prog.cellsOf 9)) = some y0 := hf 0 _ rfl
 have g1 : DataW.trod enc Tryz.prog W 0 (fun _ => true) true k 123 (([v0, v1, v2].drop 1).take (Tryz.prog.cellsOf 123)) = some y1 := hf 1 _ rfl
 have g2 : DataW.trod enc Tryz.prog W 0 (fun _ => true) true k 123 (([v0, v1, v2].drop 2).take (Tryz.prog.cellsOf 123)) = some y2 := hf 2 _ rfl
 rw [Tryz.cellsS8] at g0
 rw [Tryz.cellsD8] at g1 g2
 obtain ⟨s0, h0⟩ := Opens.string Tryz.underlying9 _ _ _ _ _ _ g0
 obtain ⟨l1, a1, n1, c1, rfl, h1, q1⟩ := open_dots8 g1
 obtain ⟨l2, a2, n2, c2, rfl, h2, q2⟩ := open_dots8 g2
 simp [strR] at h0
 subst h0
 exact ⟨(s0, l1, l2), a1, n1, c1, a2, n2, c2, rfl, ⟨h1, q1⟩, h2, q2⟩
theorem SR.nss {w : World} {a : Option Addr} {n : Nat} {s : List En} (h : SR 3 entR w a n s) : NSS w a n s := by
 obtain ⟨h1, h2, h3⟩ := h
 rcases h3 with h3 | ⟨b, off, rfl, hc⟩
 ·subst h3
  obtain rfl : s = [] := List.eq_nil_of_length_eq_zero h1
  exact NSS.nil w a
 ·have each : ∀ i, i < s.length → ∃ x : Ne, (∀ e, s[i]? = some e → RelN w x e) ∧ ∀ j v, (encN x)[j]? = some v → w.cell? ⟨b, off + i * 3 + j, none⟩ = some v := by
   intro i hi
   obtain ⟨r, q1, ⟨p, n, c, pd, nd, cd, rfl, k1, k2⟩, q4⟩ := hc i s[i] (List.getElem?_eq_getElem hi)
   refine ⟨(s[i].1, (p, n, c), (pd, nd, cd)), fun e he => ?_, q4⟩
   rw [List.getElem?_eq_getElem hi] at he
   cases he
   exact ⟨rfl, k1, k2⟩
  have hf : ∃ f : Nat → Ne, ∀ i, i < s.length → (∀ e, s[i]? = some e → RelN w (f i) e) ∧ ∀ j v, (encN (f i))[j]? = some v → w.cell? ⟨b, off + i * 3 + j, none⟩ = some v := by
   refine ⟨fun i => if h : i < s.length then Classical.choose (each i h) else (⟨#[]⟩, (none, 0, 0), (none, 0, 0)), fun i hi => ?_⟩
   have := Classical.choose_spec (each i hi)
   simpa only [hi, dif_pos] using this
  obtain ⟨f, hf⟩ := hf
  refine ⟨(List.range s.length).map f, ⟨by simp [h1], h2, .inr ⟨b, off, rfl, ?_⟩⟩, by simp, ?_⟩
  ·intro i x hi j v hj
   have hil : i < s.length := by have := (List.getElem?_eq_some_iff.1 hi).1; simpa using this
   have hx : x = f i := by simpa [hil] using hi.symm
   subst hx
   exact (hf i hil).2 j v hj
  ·intro i x e hi he
   have hil : i < s.length := (List.getElem?_eq_some_iff.1 he).1
   have hx : x = f i := by simpa [hil] using hi.symm
   subst hx
   exact (hf i hil).1 e he
def fewN (x : En) : Prop := x.1.size ≤ 100 ∧ x.2.1.length ≤ 30 ∧ x.2.2.length ≤ 30
def LightN (n : Nat) (s : List En) (w : World) (e : Ending) (w' : World) : Prop := ∃ b : Bool, e = .returned (.bool b) ∧ (b = true → n ≤ 30 ∧ ∀ x ∈ s, fewN x) ∧ w' = w
set_option maxHeartbeats 2000000 in
theorem light8 (a : Option Addr) (n cap : Nat) (s : List En) (w : World) (hA : NSS w a n s) : Calls Tryz.prog 35 #[.slice a n cap] w (LightN n s w) := by
 have HV := hide hA
 have HLEN := hide hA.len
 have hmx := hA.max
 unfold maxLen at hmx
 clear hA
 go_enter Tryz.func35, Tryz.ntmps35
 go_wp2
 go_loopw [3] (fun i wr => ∃ k : Nat, k ≤ n ∧ k ≤ 31 ∧ i = .int .i64 k ∧ Hid (∀ x ∈ s.take k, fewN x) ∧ wr = w) (fun i _ => n - (intOf i).toNat)
 case atStart => exact ⟨0, by omega, by omega, rfl, (fun x hx => by simp at hx), rfl⟩
 case round =>
  obtain ⟨k0, hk, hk2, rfl, HF, hw⟩ := hrel
  subst hw
  by_cases hlt : k0 < n
  ·by_cases hk30 : (k0 : Int) ≤ 30
   ·obtain ⟨b, off, rfl⟩ := HV.out.addr (by omega)
    obtain ⟨k, pl, nl, cl, pd, nd, cd, ll, mm, hx, c0, c1, c2, h1, _, h3, _⟩ := HV.out.at k0 hlt
    have hk0 : (0 : Int) ≤ (k0 : Int) := by omega
    have hk1 : (k0 : Int) < (n : Int) := by omega
    by_cases q1 : (k.size : Int) ≤ 100
    ·by_cases q2 : (nl : Int) ≤ 30
     ·by_cases q3 : (nd : Int) ≤ 30
      ·have HF2 : Hid (∀ x ∈ s.take (k0 + 1), fewN x) := by
        intro x hx'
        rw [take_snocL hx] at hx'
        rcases List.mem_append.1 hx' with q | q
        ·exact HF.out x q
        ·simp at q
         subst q
         have := h1.1
         have := h3.1
         exact ⟨by simp only; omega, by simp only; omega, by simp only; omega⟩
       clear hx h1 h3
       go_wp2
       go_roundw
       case rel => exact ⟨k0 + 1, by omega, by omega, by go_num, HF2, trivial⟩
       case measure => simp [intOf]; omega
      ·clear hx h1 h3
       go_wp2
       go_ret
       exact ⟨false, rfl, (fun h => by cases h), rfl⟩
     ·clear hx h1 h3
      go_wp2
      go_ret
      exact ⟨false, rfl, (fun h => by cases h), rfl⟩
    ·clear hx h1 h3
     go_wp2
     go_ret
     exact ⟨false, rfl, (fun h => by cases h), rfl⟩
   ·have hn30 : ¬ (n : Int) ≤ 30 := by omega
    go_wp2
    go_ret
    exact ⟨false, by simp, (fun h => by cases h), rfl⟩
  ·obtain rfl : k0 = n := by omega
   have HF2 : Hid (∀ x ∈ s, fewN x) := by have := HF.out; rwa [← HLEN.out, List.take_length] at this
   by_cases hk30 : (k0 : Int) ≤ 30
   ·go_wp2
    go_ret
    exact ⟨true, by simp, (fun _ => ⟨by omega, HF2.out⟩), rfl⟩
   ·go_wp2
    go_ret
    exact ⟨false, by simp, (fun h => by cases h), rfl⟩
end Go.Proofs.YtkbbegbpkndebaaGreat

