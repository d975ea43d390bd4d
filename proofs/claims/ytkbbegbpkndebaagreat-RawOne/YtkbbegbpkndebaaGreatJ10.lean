/- Texts of this claim, joined: A6. -/
import Derived.Test.YtkbbegbpkndebaaGreatJ9
/- A set with a key's dots put, by the program (layer 8). -/
namespace Go.Proofs.YtkbbegbpkndebaaGreat
open Go.RowKit Go.Lib
set_option linter.unusedVariables false
theorem DC.nil (w : World) : DC w (none, 0, 0) [] := ⟨DS.nil _ _, Nat.le_refl _, by decide, fun _ => rfl⟩
theorem ON.blk {N : Nat} {w : World} {V : Value} {es : List En} (h : ON N w V es) : ∀ g, V.ownBlock = some g → g < w.heap.size := by
  intro g hg
  obtain ⟨xs, ⟨_, h1⟩, _⟩ := h
  rcases h1 with ⟨rfl, _⟩ | ⟨g', cap, cur, rfl, _, h3, _⟩
  · simp [Value.ownBlock] at hg
  · simp only [Value.ownBlock, Option.some.injEq] at hg
    subst hg
    exact (Array.getElem?_eq_some_iff.1 h3).1
set_option maxHeartbeats 4000000 in
set_option maxRecDepth 100000 in
theorem copies_any (N : Nat) (V : Value) (es : List En) (a : Option Addr) (n cap : Nat) (fs : List En) (w0 w : World) (hO : ON N w V es) (hA : NSS w0 a n fs) (h0 : w0.heap.size ≤ N) (hb0 : Below w0.heap.size w0 w) (hN : N ≤ w.heap.size) (hd : ∀ x ∈ fs, x.2.2 = [] ∧ x.2.1.length ≤ 1000000) (hbig : es.length + n ≤ 900000) :
    Calls Tryz.prog 218 #[V, .slice a n cap] w fun e w' => ∃ v, e = .returned v ∧ ON N w' v (es ++ fs) ∧ Below N w w' := by
  have HV : Hid (∀ W, Below N w W → NSS W a n fs) := fun W hW => hA.below (hb0.trans (hW.mono h0))
  have HLEN := hide hA.len
  have hmx := hA.max
  unfold maxLen at hmx
  have HNW := hide hN
  have HBIG := hide hbig
  have HDD := hide hd
  have HO0 := hide hO
  clear hA h0 hb0 hN hd hO
  go_enter Tryz.func218, Tryz.ntmps218
  go_wp2
  go_loopw [0, 9] (fun V i wr => ∃ k : Nat, k ≤ n ∧ i = .int .i64 k ∧ Hid (ON N wr V (es ++ fs.take k)) ∧ Hid (Below N w wr)) (fun _ i _ => n - (intOf i).toNat)
  case atStart => exact ⟨0, by omega, rfl, (show Hid _ by simpa using HO0), Below.refl _ _⟩
  case round =>
    clear HO0
    obtain ⟨k0, hk, rfl, HO, HB⟩ := hrel
    by_cases hlt : k0 < n
    · obtain ⟨b, off, rfl⟩ := (HV.out _ HB.out).addr (by omega)
      obtain ⟨k, pl, nl, cl, pd, nd, cd, ll, mm, hx, c0, c1, c2, hl1, hl2, _, _⟩ := (HV.out _ HB.out).at k0 hlt
      have HX := hide hx
      have hk0 : (0 : Int) ≤ (k0 : Int) := by omega
      have hk1 : (k0 : Int) < (n : Int) := by omega
      have HMM := hide (HDD.out _ (List.mem_of_getElem? hx))
      have hnl : nl ≤ 1000000 := by rw [← hl1.1]; exact HMM.out.2
      clear hx
      go_upto_region 4 with fail
      have HBU := hide (bel1 wr (.cells #[.string k, .slice pl nl cl, .slice pd nd cd] 125))
      have HBX := hide (BX.new wr _ rfl #[.string k, .slice pl nl cl, .slice pd nd cd] 125)
      have HL := hide (hl1.below HBU.out)
      have HBU2 : Hid (Below N w (wr.alloc (.cells #[.string k, .slice pl nl cl, .slice pd nd cd] 125))) := HB.out.alloc (Nat.le_trans HNW.out (HB.out.mono (Nat.zero_le _)).size) _
      have HOB : Hid (u0.ownBlock ≠ some wr.heap.size) := fun e => by have := HO.out.blk _ e; omega
      replace HO := hide (HO.out.below HBU.out)
      have HNU : Hid (N ≤ (wr.alloc (.cells #[.string k, .slice pl nl cl, .slice pd nd cd] 125)).heap.size) := Nat.le_trans HNW.out (HBU2.out.mono (Nat.zero_le _)).size
      generalize hgb : wr.heap.size = gb at *
      clear hgb c0 c1 c2 HB hl1 hl2
      have HBU : Hid (Below N w (wr.alloc (.cells #[.string k, .slice pl nl cl, .slice pd nd cd] 125)).drew) := HBU2.out.drew
      generalize wr.alloc (.cells #[.string k, .slice pl nl cl, .slice pd nd cd] 125) = u at *
      refine wp_region_held_drew (S := fun W => BX W gb #[.string k, .slice pl nl cl, .slice pd nd cd] 125) (by kernel_rfl) (HBX.out.drew) (fun hS0 => ?_)
      refine tkI 0 13 ?v1 rfl rfl hS0 ?hy1 ?_
      case hy1 => (intro W hW; clear hW; go_simp; try rfl)
      simp only [ly]
      refine tkI 1 14 ?v2 rfl rfl hS0 ?hy2 ?_
      case hy2 => (intro W hW; clear hW; go_simp; try rfl)
      simp only [ly]
      refine tkI 2 15 ?v3 rfl rfl hS0 ?hy3 ?_
      case hy3 => (intro W hW; have e0 := hW.cell 0 _ rfl; have e1 := hW.cell 1 _ rfl; have e2 := hW.cell 2 _ rfl; clear hW; go_simp; try rfl)
      simp only [ly]
      refine tkI 3 16 ?v4 rfl rfl hS0 ?hy4 ?_
      case hy4 => (intro W hW; clear hW; go_simp; try rfl)
      simp only [ly]
      refine tkI 4 17 ?v5 rfl rfl hS0 ?hy5 ?_
      case hy5 => (intro W hW; have e0 := hW.cell 0 _ rfl; have e1 := hW.cell 1 _ rfl; have e2 := hW.cell 2 _ rfl; clear hW; go_simp; try rfl)
      simp only [ly]
      refine wpAnyH_ready (rs := [5]) (by kernel_rfl) (by simp) ?_
      refine AllReadyH.cons rfl (fun K hK => ?_) AllReadyH.nil
      go_simp
      refine (cloneD_any pl nl cl ll _ (HL.out.below (Below.refl _ u).drew) (by omega)).mono ?_
      rintro e w1 ⟨v1, rfl, ho1, hb1⟩
      have B1 := hide (bel_next (Below.refl _ u).drew hb1)
      have O1 := hide ho1
      have BW := hS0.below hb1
      obtain ⟨p1, c1, rfl, hds1, hcp1⟩ := ho1.open
      have HD1 := hide hds1
      have HC1 := hide hcp1
      clear ho1 hb1 hds1 hcp1
      refine hK.out _ _ ?hs6 (fun hS1 => ?_)
      case hs6 => exact BW
      clear hK K
      try simp only [ly]
      refine tkI 6 19 ?v7 rfl rfl hS1 ?hy7 ?_
      case hy7 => (intro W hW; clear hW; go_simp; try rfl)
      simp only [ly]
      refine wpAnyH_ready (rs := [7]) (by kernel_rfl) (by simp) ?_
      refine AllReadyH.cons rfl (fun K hK => ?_) AllReadyH.nil
      go_simp
      have hrs := RSN.one w1 (k, (p1, ll.length, c1), (none, 0, 0)) w1.heap.size rfl 125 (0, 0)
      have HRS := hide hrs
      clear hrs BW
      have B2 := hide (bel_next B1.out (bel1 w1 (.cells #[.string k, .slice p1 ll.length c1, .slice none 0 0] 125)))
      have BW := hS1.alloc (.cells #[.string k, .slice p1 ll.length c1, .slice none 0 0] 125)
      have O2 := hide (O1.out.alloc (.cells #[.string k, .slice p1 ll.length c1, .slice none 0 0] 125))
      have HD2 := hide (HD1.out.alloc (.cells #[.string k, .slice p1 ll.length c1, .slice none 0 0] 125))
      generalize hgw : w1.heap.size = gw at *
      clear hgw
      generalize w1.alloc (.cells #[.string k, .slice p1 ll.length c1, .slice none 0 0] 125) = w2 at *
      refine hK.out _ _ ?hs8 (fun hS2 => ?_)
      case hs8 => exact BW
      clear hK K
      try simp only [ly]
      refine wpAnyH_ready (rs := [8]) (by kernel_rfl) (by simp) ?_
      refine AllReadyH.cons rfl (fun K hK => ?_) AllReadyH.nil
      rw [if_pos (by kernel_rfl)]
      refine append_enw _ _ rfl N u0 (es ++ fs.take k0) [(k, ll, [])] rfl (HO.out.below B2.out) (some ⟨gw, 0, none⟩) 1 1 rfl (fun h => by cases h) [(k, (p1, ll.length, c1), (none, 0, 0))] HRS.out (Rels.one ⟨rfl, ⟨HD2.out, HC1.out⟩, DC.nil _⟩) (fun y hy => by
        rw [List.mem_singleton] at hy
        subst hy
        exact ⟨Lo.own O2.out, Lo.none _ _⟩) (by have := HBIG.out; simp only [List.length_append, List.length_take, List.length_singleton]; omega) (Nat.le_trans HNW.out (Nat.le_trans HBU.out.size B2.out.size)) ?_
      intro v3 w3 ho3 hgr3 hbel3
      have O3 := hide ho3
      have BW := hS2.grown hgr3 HOB.out
      have B3 : Hid (Below N w w3) := hbel3 _ (HBU2.out.trans (B2.out.mono HNU.out))
      clear ho3 hgr3 hbel3
      change K (Act.put _ (some 21) _) _
      refine hK.out _ _ ?hs9 (fun hS3 => ?_)
      case hs9 => exact BW
      clear hK K
      try simp only [ly]
      refine tkI 9 0 ?v10 rfl rfl hS3 ?hy10 ?_
      case hy10 => (intro W hW; clear hW; go_simp; try rfl)
      simp only [Act.put, List.setIfInBounds_toArray, List.set_cons_zero]
      refine wpAnyH_done (by kernel_rfl) ?_ _
      have HX2 : Hid (es ++ fs.take k0 ++ [(k, ll, [])] = es ++ fs.take (k0 + 1)) := by
        have q := HMM.out.1
        simp only at q
        unfold Hid
        rw [take_snocL HX.out, q, List.append_assoc]
      rw [HX2.out] at O3
      go_wp2
      go_roundw
      case rel => exact ⟨k0 + 1, by omega, by go_num, O3, B3⟩
      case measure => simp [intOf]; omega
    · obtain rfl : k0 = n := by omega
      have HOE : Hid (ON N wr u0 (es ++ fs)) := by have := HO.out; rwa [← HLEN.out, List.take_length] at this
      clear HO
      go_wp2
      go_ret
      exact ⟨_, rfl, HOE.out, HB.out⟩
set_option maxHeartbeats 4000000 in
set_option maxRecDepth 100000 in
theorem with_any (a : Option Addr) (n cap : Nat) (s : List En) (t : ByteArray) (pv : Option Addr) (nv cv : Nat) (l : List Dot) (w : World) (hA : NSS w a n s) (hcp : CP a n cap) (hm : mayS s = true) (hL : DS w pv nv l) (hcl : CP pv nv cv) (hd : ∀ x ∈ s, x.2.1.length ≤ 1000000) :
    Calls Tryz.prog 194 #[.slice a n cap, .string t, .slice pv nv cv] w fun e w' => ∃ v, e = .returned v ∧ ON w.heap.size w' v (putS s t l) ∧ Below w.heap.size w w' := by
  obtain ⟨hm1, hm2, hm3⟩ := mayS_iff.1 hm
  have HV := hide hA
  have HLEN := hide hA.len
  have HS := hide hm2
  have hn : n ≤ 4000 := by rw [← hA.len]; exact hm3
  have HDD : Hid (∀ x ∈ s, x.2.2 = [] ∧ x.2.1.length ≤ 1000000) := fun x hx => ⟨(mayN_iff.1 (hm1 x hx)).2.2.1, hd x hx⟩
  have hnc := hcp.1
  have HCP := hide hcp
  have HL := hide hL
  have HCL := hide hcl
  have HPL := hide (place_any a n cap s t w hA hm2 hn)
  clear hA hm1 hm2 hm3 hm hd hcp hL hcl
  go_enter Tryz.func194, Tryz.ntmps194
  go_upto_region 2 with (go_at_call 217; refine HPL.out.mono ?_; rintro e w1 ⟨⟨i, rfl, hp⟩, hb⟩)
  have HP := hide hp
  have HB := hide hb
  have hin : i ≤ n := by rw [← HLEN.out]; exact hp.1
  clear hp hb HPL
  have HC1 := hide (copies_any w.heap.size (.slice none 0 0) [] a i cap (s.take i) w w1 (ON.nil _ _) (HV.out.head i hin) (Nat.le_refl _) HB.out HB.out.size (fun x hx => HDD.out x (List.mem_of_mem_take hx)) (by simp; omega))
  rcases ht : thereB s t i with _ | _
  · have HG := hide (place_not HS.out HP.out (fun x hx e => by unfold thereB at ht; rw [hx] at ht; simp [e] at ht) l).2
    have hbh : i ≤ n := by omega
    have hi0 : (0 : Int) ≤ (i : Int) := by omega
    have hi1 : (i : Int) ≤ (cap : Int) := by omega
    have hi2 : ((i : Int)) + 1 ≤ (cap : Int) ∨ True := .inr trivial
    clear hi2
    have hb1 : (i : Int) ≤ (n : Int) := by omega
    go_upto_region 6 with (go_at_call 218; refine HC1.out.mono ?_; rintro e w2 ⟨v2, rfl, ho2, hb2'⟩)
    have HO2 := hide ho2
    have HB2 : Hid (Below w.heap.size w w2) := HB.out.trans hb2'
    clear ho2 hb2' HC1
    rw [List.nil_append] at HO2
    have HNL := hide HL.out.1
    rcases Nat.eq_zero_or_pos nv with hnv | hnv
    · obtain rfl : l = [] := List.eq_nil_of_length_eq_zero (by rw [HNL.out, hnv])
      rw [if_pos rfl, List.append_nil] at HG
      subst hnv
      have HO3 := HO2
      have HB3 := HB2
      clear HO2 HB2
      by_cases hlast : i < n
      · obtain ⟨b, off, rfl⟩ := HV.out.addr (by omega)
        have hne : ¬ (cap = i) := by omega
        have hne2 : ¬ ((cap : Int) = (i : Int)) := by omega
        go_wp2_with (go_at_call 218; refine (copies_any w.heap.size _ _ _ _ _ (s.drop (i)) w _ HO3.out (HV.out.mid (i) (by omega)) (Nat.le_refl _) HB3.out HB3.out.size (fun x hx => HDD.out x (List.mem_of_mem_drop hx)) (by simp [HLEN.out]; omega)).mono ?_; rintro e w4 ⟨v4, rfl, ho4, hb4⟩)
        all_goals (go_ret; exact ⟨_, rfl, by rw [HG.out]; exact ho4, HB3.out.trans hb4⟩)
      · obtain rfl : i = n := by omega
        go_wp2_with (go_at_call 218; refine (copies_any w.heap.size _ _ _ _ _ (s.drop (i)) w _ HO3.out (by rw [List.drop_eq_nil_of_le (by rw [HLEN.out]; exact Nat.le_refl _)]; first | exact NSS.nil _ _ | (rw [Nat.sub_self]; exact NSS.nil _ _)) (Nat.le_refl _) HB3.out HB3.out.size (fun x hx => HDD.out x (List.mem_of_mem_drop hx)) (by simp [HLEN.out]; omega)).mono ?_; rintro e w4 ⟨v4, rfl, ho4, hb4⟩)
        all_goals (go_ret; exact ⟨_, rfl, by rw [HG.out]; exact ho4, HB3.out.trans hb4⟩)
    · have hle : l ≠ [] := by
        intro h
        rw [h] at HNL
        have := HNL.out
        simp at this
        omega
      rw [if_neg hle] at HG
      clear hle
      have hnv' : (0 : Int) < (nv : Int) := by omega
      go_wp2_with (at_builtin; refine Stop.at ?_)
      unfold Stop
      have HB2' := hide (bel1 w2 (.cells #[.string t, .slice pv nv cv, .slice none 0 0] 125))
      have HBX := hide (bel_next HB2.out HB2'.out)
      refine append_en rfl _ _ rfl w.heap.size _ (s.take i) [(t, l, [])] rfl (HO2.out.below HB2'.out) (some ⟨w2.heap.size, 0, none⟩) 1 1 rfl (fun h => by cases h) [(t, (pv, nv, cv), (none, 0, 0))] (RSN.one w2 (t, (pv, nv, cv), (none, 0, 0)) _ rfl 125 (0, 0)) (Rels.one ⟨rfl, ⟨HL.out.below HBX.out, HCL.out⟩, DC.nil _⟩) (fun y hy => by
        rw [List.mem_singleton] at hy
        subst hy
        exact ⟨Lo.old HL.out (Nat.le_refl _) HBX.out.size, Lo.none _ _⟩) (by simp [HLEN.out]; omega) HBX.out.size ?_
      intro v3 w3 ho3 _ hbel3
      have HO3 := hide ho3
      have HB3 := hide (hbel3 _ HBX.out)
      clear ho3 hbel3 HBX HB2 HO2 HB2'
      by_cases hlast : i < n
      · obtain ⟨b, off, rfl⟩ := HV.out.addr (by omega)
        have hne : ¬ (cap = i) := by omega
        have hne2 : ¬ ((cap : Int) = (i : Int)) := by omega
        go_wp2_with (go_at_call 218; refine (copies_any w.heap.size _ _ _ _ _ (s.drop (i)) w _ HO3.out (HV.out.mid (i) (by omega)) (Nat.le_refl _) HB3.out HB3.out.size (fun x hx => HDD.out x (List.mem_of_mem_drop hx)) (by simp [HLEN.out]; omega)).mono ?_; rintro e w4 ⟨v4, rfl, ho4, hb4⟩)
        all_goals (go_ret; exact ⟨_, rfl, by rw [HG.out]; exact ho4, HB3.out.trans hb4⟩)
      · obtain rfl : i = n := by omega
        go_wp2_with (go_at_call 218; refine (copies_any w.heap.size _ _ _ _ _ (s.drop (i)) w _ HO3.out (by rw [List.drop_eq_nil_of_le (by rw [HLEN.out]; exact Nat.le_refl _)]; first | exact NSS.nil _ _ | (rw [Nat.sub_self]; exact NSS.nil _ _)) (Nat.le_refl _) HB3.out HB3.out.size (fun x hx => HDD.out x (List.mem_of_mem_drop hx)) (by simp [HLEN.out]; omega)).mono ?_; rintro e w4 ⟨v4, rfl, ho4, hb4⟩)
        all_goals (go_ret; exact ⟨_, rfl, by rw [HG.out]; exact ho4, HB3.out.trans hb4⟩)
  · obtain ⟨x, hx, he⟩ : ∃ x, s[i]? = some x ∧ x.1 = t := by
      unfold thereB at ht
      split at ht
      · cases ht
      · exact ⟨_, by assumption, by simpa using ht⟩
    have HG := hide (place_there HS.out HP.out hx he l).2
    have hin2 : i < n := by rw [← HLEN.out]; exact (List.getElem?_eq_some_iff.1 hx).1
    clear hx he x
    have hbh : i + 1 ≤ n := by omega
    have hi0 : (0 : Int) ≤ (i : Int) := by omega
    have hi1 : (i : Int) ≤ (cap : Int) := by omega
    have hi2 : ((i : Int)) + 1 ≤ (cap : Int) ∨ True := .inr trivial
    clear hi2
    have hb1 : (i : Int) + 1 ≤ (n : Int) := by omega
    have hb2 : (i : Int) + 1 ≤ (cap : Int) := by omega
    go_upto_region 6 with (go_at_call 218; refine HC1.out.mono ?_; rintro e w2 ⟨v2, rfl, ho2, hb2'⟩)
    have HO2 := hide ho2
    have HB2 : Hid (Below w.heap.size w w2) := HB.out.trans hb2'
    clear ho2 hb2' HC1
    rw [List.nil_append] at HO2
    have HNL := hide HL.out.1
    rcases Nat.eq_zero_or_pos nv with hnv | hnv
    · obtain rfl : l = [] := List.eq_nil_of_length_eq_zero (by rw [HNL.out, hnv])
      rw [if_pos rfl, List.append_nil] at HG
      subst hnv
      have HO3 := HO2
      have HB3 := HB2
      clear HO2 HB2
      by_cases hlast : i + 1 < n
      · obtain ⟨b, off, rfl⟩ := HV.out.addr (by omega)
        have hne : ¬ (cap = i + 1) := by omega
        have hne2 : ¬ ((cap : Int) = (i : Int) + 1) := by omega
        go_wp2_with (go_at_call 218; refine (copies_any w.heap.size _ _ _ _ _ (s.drop (i + 1)) w _ HO3.out (HV.out.mid (i + 1) (by omega)) (Nat.le_refl _) HB3.out HB3.out.size (fun x hx => HDD.out x (List.mem_of_mem_drop hx)) (by simp [HLEN.out]; omega)).mono ?_; rintro e w4 ⟨v4, rfl, ho4, hb4⟩)
        all_goals (go_ret; exact ⟨_, rfl, by rw [HG.out]; exact ho4, HB3.out.trans hb4⟩)
      · obtain rfl : i + 1 = n := by omega
        go_wp2_with (go_at_call 218; refine (copies_any w.heap.size _ _ _ _ _ (s.drop (i + 1)) w _ HO3.out (by rw [List.drop_eq_nil_of_le (by rw [HLEN.out]; exact Nat.le_refl _)]; first | exact NSS.nil _ _ | (rw [Nat.sub_self]; exact NSS.nil _ _)) (Nat.le_refl _) HB3.out HB3.out.size (fun x hx => HDD.out x (List.mem_of_mem_drop hx)) (by simp [HLEN.out]; omega)).mono ?_; rintro e w4 ⟨v4, rfl, ho4, hb4⟩)
        all_goals (go_ret; exact ⟨_, rfl, by rw [HG.out]; exact ho4, HB3.out.trans hb4⟩)
    · have hle : l ≠ [] := by
        intro h
        rw [h] at HNL
        have := HNL.out
        simp at this
        omega
      rw [if_neg hle] at HG
      clear hle
      have hnv' : (0 : Int) < (nv : Int) := by omega
      go_wp2_with (at_builtin; refine Stop.at ?_)
      unfold Stop
      have HB2' := hide (bel1 w2 (.cells #[.string t, .slice pv nv cv, .slice none 0 0] 125))
      have HBX := hide (bel_next HB2.out HB2'.out)
      refine append_en rfl _ _ rfl w.heap.size _ (s.take i) [(t, l, [])] rfl (HO2.out.below HB2'.out) (some ⟨w2.heap.size, 0, none⟩) 1 1 rfl (fun h => by cases h) [(t, (pv, nv, cv), (none, 0, 0))] (RSN.one w2 (t, (pv, nv, cv), (none, 0, 0)) _ rfl 125 (0, 0)) (Rels.one ⟨rfl, ⟨HL.out.below HBX.out, HCL.out⟩, DC.nil _⟩) (fun y hy => by
        rw [List.mem_singleton] at hy
        subst hy
        exact ⟨Lo.old HL.out (Nat.le_refl _) HBX.out.size, Lo.none _ _⟩) (by simp [HLEN.out]; omega) HBX.out.size ?_
      intro v3 w3 ho3 _ hbel3
      have HO3 := hide ho3
      have HB3 := hide (hbel3 _ HBX.out)
      clear ho3 hbel3 HBX HB2 HO2 HB2'
      by_cases hlast : i + 1 < n
      · obtain ⟨b, off, rfl⟩ := HV.out.addr (by omega)
        have hne : ¬ (cap = i + 1) := by omega
        have hne2 : ¬ ((cap : Int) = (i : Int) + 1) := by omega
        go_wp2_with (go_at_call 218; refine (copies_any w.heap.size _ _ _ _ _ (s.drop (i + 1)) w _ HO3.out (HV.out.mid (i + 1) (by omega)) (Nat.le_refl _) HB3.out HB3.out.size (fun x hx => HDD.out x (List.mem_of_mem_drop hx)) (by simp [HLEN.out]; omega)).mono ?_; rintro e w4 ⟨v4, rfl, ho4, hb4⟩)
        all_goals (go_ret; exact ⟨_, rfl, by rw [HG.out]; exact ho4, HB3.out.trans hb4⟩)
      · obtain rfl : i + 1 = n := by omega
        go_wp2_with (go_at_call 218; refine (copies_any w.heap.size _ _ _ _ _ (s.drop (i + 1)) w _ HO3.out (by rw [List.drop_eq_nil_of_le (by rw [HLEN.out]; exact Nat.le_refl _)]; first | exact NSS.nil _ _ | (rw [Nat.sub_self]; exact NSS.nil _ _)) (Nat.le_refl _) HB3.out HB3.out.size (fun x hx => HDD.out x (List.mem_of_mem_drop hx)) (by simp [HLEN.out]; omega)).mono ?_; rintro e w4 ⟨v4, rfl, ho4, hb4⟩)
        all_goals (go_ret; exact ⟨_, rfl, by rw [HG.out]; exact ho4, HB3.out.trans hb4⟩)

end Go.Proofs.YtkbbegbpkndebaaGreat

