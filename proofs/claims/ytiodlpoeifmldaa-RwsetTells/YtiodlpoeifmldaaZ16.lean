/- The document's Add, Drop, Clean, Plain (layer 9). -/
import Derived.Test.YtiodlpoeifmldaaZ4
import Derived.Test.YtiodlpoeifmldaaZ15
namespace Go.Proofs.Ytiodlpoeifmldaa
open Go.RowKit Go.Lib
set_option linter.unusedVariables false
set_option maxHeartbeats 4000000 in
set_option maxRecDepth 4000 in
theorem AddP_ref (a : Option Addr) (n cap : Nat) (s : List En) (t : ByteArray) (r q : Int) (pa : Option Addr) (na ca : Nat) (c : List Int) (w : World) (hA : NSS w a n s) (hcp : CP a n cap) (hS : SrtK s) (hP : NS w pa na c) (hn : n ≤ 100000) (hd : ∀ x ∈ s, x.2.1.length ≤ 90000 ∧ x.2.2.length ≤ 90000) : Calls Try.prog 17 #[.slice a n cap, .string t, .agg #[.int .i64 r, .int .i64 q], .slice pa na ca] w fun e w' => ∃ p cp, e = .returned (.slice p (addP s t (r, q) c).length cp) ∧ NSS w' p (addP s t (r, q) c).length (addP s t (r, q) c) ∧ CP p (addP s t (r, q) c).length cp ∧ Below w.heap.size w w' := by
  have HV := hide hA
  have HLEN := hide hA.len
  have HCP := hide hcp
  have HP := hide hP
  have HRT := hide hS
  have HFG := hide (few9_get hd t)
  clear hA hP hd hS hcp
  have BB := hide (bel1 w (.cells #[.int .i64 r, .int .i64 q] 24))
  have d0 := cell_new w #[.int .i64 r, .int .i64 q] 24 _ rfl 0 _ rfl
  have d1 := cell_new w #[.int .i64 r, .int .i64 q] 24 _ rfl 1 _ rfl
  go_enter Try.func17, Try.ntmps17
  go_upto_region 2 with (go_at_call 24; refine (GetP_ref a n cap s t _ (HV.out.below BB.out)).mono ?_; rintro e w2 ⟨v2, rfl, ⟨p1, n1, c1, pd, nd, cd, rfl, hl, hlc, hm, hmc⟩, hb⟩; have HL := hide hl; have HLC := hide hlc; have HM := hide hm; have HMC := hide hmc; replace BB := hide (bel_next BB.out hb); replace d0 := bcell hb d0; replace d1 := bcell hb d1; clear hb hl hlc hm hmc)
  have hn1 : n1 ≤ 90000 := by rw [← HL.out.1]; exact HFG.out.1
  have hnd : nd ≤ 90000 := by rw [← HM.out.1]; exact HFG.out.2
  have HLL : Hid ((leftD (getP s t).1 c).length ≤ 90000) := Nat.le_trans (List.length_filter_le _ _) HFG.out.1
  have BA := hide (bel1 w2 (.cells #[.string t, .slice p1 n1 c1, .slice pd nd cd] 48))
  have XE := hide (BX.new w2 _ rfl #[.string t, .slice p1 n1 c1, .slice pd nd cd] 48)
  replace HL := hide (HL.out.below BA.out)
  replace HM := hide (HM.out.below BA.out)
  replace BB := hide (bel_next BB.out BA.out)
  replace d0 := bcell BA.out d0
  replace d1 := bcell BA.out d1
  clear BA
  generalize hgb : w2.heap.size = g at *
  generalize w2.alloc (.cells #[.string t, .slice p1 n1 c1, .slice pd nd cd] 48) = u0 at *
  clear hgb
  have x1 := XE.out.cell 1 _ rfl
  have x2 := XE.out.cell 2 _ rfl
  have x0 := XE.out.cell 0 _ rfl
  have HUN := hide (LeftR_any pd nd cd (getP s t).2 pa na ca c u0 HM.out (HP.out.below BB.out) (by omega))
  rcases Nat.eq_zero_or_pos (leftD (getP s t).2 c).length with hz | hz
  · have H0 := hide hz
    have HA9 : Hid (addP s t (r, q) c = putP s t (putD (leftD (getP s t).1 c) (r, q), (getP s t).2)) := by unfold Hid addP; rw [if_pos (List.eq_nil_of_length_eq_zero hz)]
    clear hz
    go_upto_region 4 with (go_at_call 40; refine HUN.out.mono ?_; rintro e u ⟨v3, rfl, ho3, hb⟩; obtain ⟨p3, r3, rfl, _, _⟩ := ho3.open; rw [H0.out]; have X3 := hide (XE.out.below hb); replace HL := hide (HL.out.below hb); replace HM := hide (HM.out.below hb); replace BB := hide (bel_next BB.out hb); replace d0 := bcell hb d0; replace d1 := bcell hb d1; replace XE := X3; clear hb X3)
    replace x1 := XE.out.cell 1 _ rfl
    replace x2 := XE.out.cell 2 _ rfl
    replace x0 := XE.out.cell 0 _ rfl
    clear ho3 HUN XE
    refine wp_region_held_drew (S := fun W => Below u.heap.size u W) (by kernel_rfl) ((Below.refl _ u).drew) (fun hS0 => ?_)
    refine takeInH 0 20 ?v1 rfl rfl (by kernel_rfl) (by kernel_rfl) (by kernel_rfl) (fun _ _ _ h => h) (by kernel_rfl) hS0 ?hy1 ?_
    case hy1 => (intro W hW; clear hW; go_simp; try rfl)
    simp only [Act.put, List.setIfInBounds_toArray, List.set_cons_zero, List.set_cons_succ]
    refine takeInH 1 21 ?v2 rfl rfl (by kernel_rfl) (by kernel_rfl) (by kernel_rfl) (fun _ _ _ h => h) (by kernel_rfl) hS0 ?hy2 ?_
    case hy2 => (intro W hW; clear hW; go_simp; try rfl)
    simp only [Act.put, List.setIfInBounds_toArray, List.set_cons_zero, List.set_cons_succ]
    refine takeInH 2 22 ?v3 rfl rfl (by kernel_rfl) (by kernel_rfl) (by kernel_rfl) (fun _ _ _ h => h) (by kernel_rfl) hS0 ?hy3 ?_
    case hy3 => (intro W hW; clear hW; go_simp; try rfl)
    simp only [Act.put, List.setIfInBounds_toArray, List.set_cons_zero, List.set_cons_succ]
    refine takeInH 3 23 ?v4 rfl rfl (by kernel_rfl) (by kernel_rfl) (by kernel_rfl) (fun _ _ _ h => h) (by kernel_rfl) hS0 ?hy4 ?_
    case hy4 => (intro W hW; have e0 := bcell hW d0; have e1 := bcell hW d1; have e2 := bcell hW x0; have e3 := bcell hW x1; have e4 := bcell hW x2; clear hW; go_simp; try rfl)
    simp only [Act.put, List.setIfInBounds_toArray, List.set_cons_zero, List.set_cons_succ]
    refine takeInH 4 24 ?v5 rfl rfl (by kernel_rfl) (by kernel_rfl) (by kernel_rfl) (fun _ _ _ h => h) (by kernel_rfl) hS0 ?hy5 ?_
    case hy5 => (intro W hW; clear hW; go_simp; try rfl)
    simp only [Act.put, List.setIfInBounds_toArray, List.set_cons_zero, List.set_cons_succ]
    refine takeInH 6 26 ?v6 rfl rfl (by kernel_rfl) (by kernel_rfl) (by kernel_rfl) (fun _ _ _ h => h) (by kernel_rfl) hS0 ?hy6 ?_
    case hy6 => (intro W hW; have e0 := bcell hW d0; have e1 := bcell hW d1; have e2 := bcell hW x0; have e3 := bcell hW x1; have e4 := bcell hW x2; clear hW; go_simp; try rfl)
    simp only [Act.put, List.setIfInBounds_toArray, List.set_cons_zero, List.set_cons_succ]
    refine takeInH 8 28 ?v7 rfl rfl (by kernel_rfl) (by kernel_rfl) (by kernel_rfl) (fun _ _ _ h => h) (by kernel_rfl) hS0 ?hy7 ?_
    case hy7 => (intro W hW; clear hW; go_simp; try rfl)
    simp only [Act.put, List.setIfInBounds_toArray, List.set_cons_zero, List.set_cons_succ]
    refine takeInH 9 29 ?v8 rfl rfl (by kernel_rfl) (by kernel_rfl) (by kernel_rfl) (fun _ _ _ h => h) (by kernel_rfl) hS0 ?hy8 ?_
    case hy8 => (intro W hW; have e0 := bcell hW d0; have e1 := bcell hW d1; have e2 := bcell hW x0; have e3 := bcell hW x1; have e4 := bcell hW x2; clear hW; go_simp; try rfl)
    simp only [Act.put, List.setIfInBounds_toArray, List.set_cons_zero, List.set_cons_succ]
    refine wpAnyH_ready (rs := [5]) (by kernel_rfl) (by simp) ?_
    refine AllReadyH.cons rfl (fun K hK => ?_) AllReadyH.nil
    go_simp
    refine (LeftR_any p1 n1 c1 (getP s t).1 pa na ca c _ (HL.out.below hS0) (HP.out.below (bel_next BB.out hS0)) (by omega)).mono ?_
    rintro e w4 ⟨v4, rfl, ho4, hb⟩
    have O4 := hide ho4
    have Z4 := hide hb.size
    clear ho4
    refine hK.out _ _ ?hs9 (fun hS1 => ?_)
    case hs9 => exact bel_next hS0 hb
    clear hK K hb
    try simp only [Act.put, List.setIfInBounds_toArray, List.set_cons_zero, List.set_cons_succ]
    refine wpAnyH_ready (rs := [7]) (by kernel_rfl) (by simp) ?_
    refine AllReadyH.cons rfl (fun K hK => ?_) AllReadyH.nil
    go_simp
    refine (PutR_any _ _ (leftD (getP s t).1 c) (r, q) _ O4.out Z4.out (by have := HLL.out; omega)).mono ?_
    rintro e w5 ⟨v5, rfl, ho5, hb⟩
    obtain ⟨p5, c5, rfl, hd5, hc5⟩ := ho5.open
    have D5 := hide hd5
    have C5 := hide hc5
    clear ho5 hd5 hc5
    refine hK.out _ _ ?hs10 (fun hS2 => ?_)
    case hs10 => exact bel_next hS1 hb
    clear hK K hb
    try simp only [Act.put, List.setIfInBounds_toArray, List.set_cons_zero, List.set_cons_succ]
    refine takeInH 10 30 ?v11 rfl rfl (by kernel_rfl) (by kernel_rfl) (by kernel_rfl) (fun _ _ _ h => h) (by kernel_rfl) hS2 ?hy11 ?_
    case hy11 => (intro W hW; clear hW; go_simp; try rfl)
    simp only [Act.put, List.setIfInBounds_toArray, List.set_cons_zero, List.set_cons_succ]
    refine wpAnyH_ready (rs := [11]) (by kernel_rfl) (by simp) ?_
    refine AllReadyH.cons rfl (fun K hK => ?_) AllReadyH.nil
    go_simp
    refine (PutP_ref a n cap s t p5 _ c5 _ pd nd cd (getP s t).2 _ (HV.out.below (bel_next BB.out hS2)) HRT.out D5.out C5.out (HM.out.below hS2) HMC.out hn (by have := HLL.out; have := @putD_len (r, q) (leftD (getP s t).1 c); omega) (by omega)).mono ?_
    rintro e w6 ⟨p6, c6, rfl, hn6, hc6, hb⟩
    have HN6 := hide hn6
    have HC6 := hide hc6
    clear hn6 hc6
    refine hK.out _ _ ?hs12 (fun hS3 => ?_)
    case hs12 => exact bel_next hS2 hb
    clear hK K hb
    try simp only [Act.put, List.setIfInBounds_toArray, List.set_cons_zero, List.set_cons_succ]
    refine takeInH 12 8 ?v13 rfl rfl (by kernel_rfl) (by kernel_rfl) (by kernel_rfl) (fun _ _ _ h => h) (by kernel_rfl) hS3 ?hy13 ?_
    case hy13 => (intro W hW; clear hW; go_simp; try rfl)
    simp only [Act.put, List.setIfInBounds_toArray, List.set_cons_zero, List.set_cons_succ]
    refine wpAnyH_done (by kernel_rfl) ?_ _
    go_wp2
    go_ret
    exact ⟨p6, c6, by rw [HA9.out]; rfl, by rw [HA9.out]; exact HN6.out, by rw [HA9.out]; exact HC6.out, bel_next BB.out hS3⟩
  · have hz1 : (0 : Int) < ((leftD (getP s t).2 c).length : Int) := by omega
    have HA9 : Hid (addP s t (r, q) c = s) := by
      unfold Hid addP
      rw [if_neg (fun h => by rw [h] at hz; simp at hz)]
    clear hz
    go_wp2_with (go_at_call 40; refine HUN.out.mono ?_; rintro e u ⟨v3, rfl, ho3, hb⟩; obtain ⟨p3, r3, rfl, _, _⟩ := ho3.open; have X3 := hide (XE.out.below hb); replace HL := hide (HL.out.below hb); replace HM := hide (HM.out.below hb); replace BB := hide (bel_next BB.out hb); replace d0 := bcell hb d0; replace d1 := bcell hb d1; replace XE := X3; clear hb X3)
    go_ret
    exact ⟨a, cap, by rw [HA9.out, HLEN.out]; rfl, by rw [HA9.out, HLEN.out]; exact HV.out.below BB.out, by rw [HA9.out, HLEN.out]; exact HCP.out, BB.out⟩
set_option maxHeartbeats 4000000 in
set_option maxRecDepth 4000 in
theorem DropP_ref (a : Option Addr) (n cap : Nat) (s : List En) (t : ByteArray) (r q : Int) (pa : Option Addr) (na ca : Nat) (c : List Int) (w : World) (hA : NSS w a n s) (hcp : CP a n cap) (hS : SrtK s) (hP : NS w pa na c) (hn : n ≤ 100000) (hd : ∀ x ∈ s, x.2.1.length ≤ 90000 ∧ x.2.2.length ≤ 90000) : Calls Try.prog 18 #[.slice a n cap, .string t, .agg #[.int .i64 r, .int .i64 q], .slice pa na ca] w fun e w' => ∃ p cp, e = .returned (.slice p (dropP s t (r, q) c).length cp) ∧ NSS w' p (dropP s t (r, q) c).length (dropP s t (r, q) c) ∧ CP p (dropP s t (r, q) c).length cp ∧ Below w.heap.size w w' := by
  have HV := hide hA
  have HLEN := hide hA.len
  have HCP := hide hcp
  have HP := hide hP
  have HRT := hide hS
  have HFG := hide (few9_get hd t)
  clear hA hP hd hS hcp
  have BB := hide (bel1 w (.cells #[.int .i64 r, .int .i64 q] 24))
  have d0 := cell_new w #[.int .i64 r, .int .i64 q] 24 _ rfl 0 _ rfl
  have d1 := cell_new w #[.int .i64 r, .int .i64 q] 24 _ rfl 1 _ rfl
  have HLL : Hid ((leftD (getP s t).2 c).length ≤ 90000) := Nat.le_trans (List.length_filter_le _ _) HFG.out.2
  have hfd := field9D
  unfold dropP
  go_enter Try.func18, Try.ntmps18
  go_upto_region 1 with fail
  generalize hgb : w.heap.size = gb at d0 d1 ⊢
  generalize w.alloc (.cells #[.int .i64 r, .int .i64 q] 24) = u at *
  rw [← hgb] at d0 d1 ⊢
  clear hgb
  refine wp_region_held_drew (S := fun W => Below u.heap.size u W) (by kernel_rfl) ((Below.refl _ u).drew) (fun hS0 => ?_)
  refine takeInH 0 9 ?v14 rfl rfl (by kernel_rfl) (by kernel_rfl) (by kernel_rfl) (fun _ _ _ h => h) (by kernel_rfl) hS0 ?hy14 ?_
  case hy14 => (intro W hW; clear hW; go_simp; try rfl)
  simp only [Act.put, List.setIfInBounds_toArray, List.set_cons_zero, List.set_cons_succ]
  refine takeInH 1 10 ?v15 rfl rfl (by kernel_rfl) (by kernel_rfl) (by kernel_rfl) (fun _ _ _ h => h) (by kernel_rfl) hS0 ?hy15 ?_
  case hy15 => (intro W hW; clear hW; go_simp; try rfl)
  simp only [Act.put, List.setIfInBounds_toArray, List.set_cons_zero, List.set_cons_succ]
  refine takeInH 2 11 ?v16 rfl rfl (by kernel_rfl) (by kernel_rfl) (by kernel_rfl) (fun _ _ _ h => h) (by kernel_rfl) hS0 ?hy16 ?_
  case hy16 => (intro W hW; clear hW; go_simp; try rfl)
  simp only [Act.put, List.setIfInBounds_toArray, List.set_cons_zero, List.set_cons_succ]
  refine takeInH 3 12 ?v17 rfl rfl (by kernel_rfl) (by kernel_rfl) (by kernel_rfl) (fun _ _ _ h => h) (by kernel_rfl) hS0 ?hy17 ?_
  case hy17 => (intro W hW; clear hW; go_simp; try rfl)
  simp only [Act.put, List.setIfInBounds_toArray, List.set_cons_zero, List.set_cons_succ]
  refine takeInH 6 15 ?v18 rfl rfl (by kernel_rfl) (by kernel_rfl) (by kernel_rfl) (fun _ _ _ h => h) (by kernel_rfl) hS0 ?hy18 ?_
  case hy18 => (intro W hW; clear hW; go_simp; try rfl)
  simp only [Act.put, List.setIfInBounds_toArray, List.set_cons_zero, List.set_cons_succ]
  refine takeInH 8 17 ?v19 rfl rfl (by kernel_rfl) (by kernel_rfl) (by kernel_rfl) (fun _ _ _ h => h) (by kernel_rfl) hS0 ?hy19 ?_
  case hy19 => (intro W hW; have e0 := bcell hW d0; have e1 := bcell hW d1; clear hW; go_simp; try rfl)
  simp only [Act.put, List.setIfInBounds_toArray, List.set_cons_zero, List.set_cons_succ]
  refine wpAnyH_ready (rs := [4]) (by kernel_rfl) (by simp) ?_
  refine AllReadyH.cons rfl (fun K hK => ?_) AllReadyH.nil
  go_simp
  refine (GetP_ref a n cap s t _ (HV.out.below (bel_next BB.out hS0))).mono ?_
  rintro e w2 ⟨v2, rfl, ⟨p1, n1, c1, pd, nd, cd, rfl, hl, hlc, hm, hmc⟩, hb⟩
  have HM := hide hm
  have hnd : nd ≤ 90000 := by rw [← hm.1]; exact HFG.out.2
  clear hl hlc hm hmc
  refine hK.out _ _ ?hs20 (fun hS1 => ?_)
  case hs20 => exact bel_next hS0 hb
  clear hK K hb
  try simp only [Act.put, List.setIfInBounds_toArray, List.set_cons_zero, List.set_cons_succ]
  refine takeInH 5 14 ?v21 rfl rfl (by kernel_rfl) (by kernel_rfl) (by kernel_rfl) (fun _ _ _ h => h) (by kernel_rfl) hS1 ?hy21 ?_
  case hy21 => (intro W hW; clear hW; go_simp; try rfl)
  simp only [Act.put, List.setIfInBounds_toArray, List.set_cons_zero, List.set_cons_succ]
  refine wpAnyH_ready (rs := [7]) (by kernel_rfl) (by simp) ?_
  refine AllReadyH.cons rfl (fun K hK => ?_) AllReadyH.nil
  go_simp
  refine (LeftR_any pd nd cd (getP s t).2 pa na ca c _ HM.out (HP.out.below (bel_next BB.out hS1)) (by omega)).mono ?_
  rintro e w4 ⟨v4, rfl, ho4, hb⟩
  have O4 := hide ho4
  have Z4 := hide hb.size
  clear ho4
  refine hK.out _ _ ?hs22 (fun hS2 => ?_)
  case hs22 => exact bel_next hS1 hb
  clear hK K hb
  try simp only [Act.put, List.setIfInBounds_toArray, List.set_cons_zero, List.set_cons_succ]
  refine wpAnyH_ready (rs := [9]) (by kernel_rfl) (by simp) ?_
  refine AllReadyH.cons rfl (fun K hK => ?_) AllReadyH.nil
  go_simp
  refine (PutR_any _ _ (leftD (getP s t).2 c) (r, q) _ O4.out Z4.out (by have := HLL.out; omega)).mono ?_
  rintro e w5 ⟨v5, rfl, ho5, hb⟩
  obtain ⟨p5, c5, rfl, hd5, hc5⟩ := ho5.open
  have D5 := hide hd5
  have C5 := hide hc5
  clear ho5 hd5 hc5
  refine hK.out _ _ ?hs23 (fun hS3 => ?_)
  case hs23 => exact bel_next hS2 hb
  clear hK K hb
  try simp only [Act.put, List.setIfInBounds_toArray, List.set_cons_zero, List.set_cons_succ]
  refine takeInH 10 19 ?v24 rfl rfl (by kernel_rfl) (by kernel_rfl) (by kernel_rfl) (fun _ _ _ h => h) (by kernel_rfl) hS3 ?hy24 ?_
  case hy24 => (intro W hW; clear hW; go_simp; try rfl)
  simp only [Act.put, List.setIfInBounds_toArray, List.set_cons_zero, List.set_cons_succ]
  refine wpAnyH_ready (rs := [11]) (by kernel_rfl) (by simp) ?_
  refine AllReadyH.cons rfl (fun K hK => ?_) AllReadyH.nil
  go_simp
  refine (PutP_ref a n cap s t none 0 0 [] p5 _ c5 _ _ (HV.out.below (bel_next BB.out hS3)) HRT.out (DS.nil _ _) ⟨Nat.le_refl _, by decide, fun _ => rfl⟩ D5.out C5.out hn (by omega) (by have := HLL.out; have := @putD_len (r, q) (leftD (getP s t).2 c); omega)).mono ?_
  rintro e w6 ⟨p6, c6, rfl, hn6, hc6, hb⟩
  have HN6 := hide hn6
  have HC6 := hide hc6
  clear hn6 hc6
  refine hK.out _ _ ?hs25 (fun hS4 => ?_)
  case hs25 => exact bel_next hS3 hb
  clear hK K hb
  try simp only [Act.put, List.setIfInBounds_toArray, List.set_cons_zero, List.set_cons_succ]
  refine takeInH 12 8 ?v26 rfl rfl (by kernel_rfl) (by kernel_rfl) (by kernel_rfl) (fun _ _ _ h => h) (by kernel_rfl) hS4 ?hy26 ?_
  case hy26 => (intro W hW; clear hW; go_simp; try rfl)
  simp only [Act.put, List.setIfInBounds_toArray, List.set_cons_zero, List.set_cons_succ]
  refine wpAnyH_done (by kernel_rfl) ?_ _
  go_wp2
  go_ret
  exact ⟨p6, c6, rfl, HN6.out, HC6.out, bel_next BB.out hS4⟩
set_option maxHeartbeats 4000000 in
set_option maxRecDepth 2000 in
theorem Clean9_ref (a : Option Addr) (n cap : Nat) (s : List En) (pa : Option Addr) (na ca : Nat) (c : List Int) (w : World) (hA : NSS w a n s) (hS : SrtK s) (hP : NS w pa na c) (hn : n ≤ 90000) (hd : ∀ x ∈ s, x.2.1.length ≤ 90000 ∧ x.2.2.length ≤ 90000) : Calls Try.prog 25 #[.slice a n cap, .slice pa na ca] w fun e w' => ∃ p cp, e = .returned (.slice p (mapP (cleanF c) s).length cp) ∧ NSS w' p (mapP (cleanF c) s).length (mapP (cleanF c) s) ∧ CP p (mapP (cleanF c) s).length cp ∧ Below w.heap.size w w' := by
  have HV := hide hA
  have HLEN := hide hA.len
  have HP := hide hP
  clear hP
  have HRT := hide hS
  have HDD := hide hd
  clear hA hS hd
  have HB0 := hide (bel1 w (.cells #[] 48))
  go_enter Try.func25, Try.ntmps25
  go_wp2
  go_loopw [5, 6] (fun V i wr => ∃ k : Nat, k ≤ n ∧ i = .int .i64 k ∧ (∃ p cp, V = .slice p (mapP (cleanF c) (s.take k)).length cp ∧ Hid (NSS wr p (mapP (cleanF c) (s.take k)).length (mapP (cleanF c) (s.take k))) ∧ Hid (CP p (mapP (cleanF c) (s.take k)).length cp)) ∧ Hid (Below w.heap.size w wr)) (fun _ i _ => n - (intOf i).toNat)
  case atStart => exact ⟨0, by omega, rfl, ⟨some ⟨w.heap.size, 0, none⟩, 0, rfl, NSS.nil _ _, ⟨Nat.le_refl _, by decide, fun h => by cases h⟩⟩, HB0⟩
  case round =>
    clear HB0
    obtain ⟨k0, hk, rfl, ⟨p0, cp0, rfl, HN0, HC0⟩, HB⟩ := hrel
    by_cases hlt : k0 < n
    · obtain ⟨b, off, rfl⟩ := HV.out.addr (by omega)
      obtain ⟨k, pl, nl, cl, pd, nd, cd, ll, mm, hx, c0, c1, c2, hl1, hl2, hm1, hm2⟩ := (HV.out.below HB.out).at k0 hlt
      have hk0 : (0 : Int) ≤ (k0 : Int) := by omega
      have hk1 : (k0 : Int) < (n : Int) := by omega
      have HM2 : Hid (mapP (cleanF c) (s.take (k0 + 1)) = putP (mapP (cleanF c) (s.take k0)) k ((cleanF c) (ll, mm))) := map_step HRT.out hx
      have hmm := HDD.out _ (List.mem_of_getElem? hx)
      have HL := hide hl1
      have HLC := hide hl2
      have HM := hide hm1
      have hnl : nl ≤ 90000 := by rw [← hl1.1]; exact hmm.1
      have hnd : nd ≤ 90000 := by rw [← hm1.1]; exact hmm.2
      have HLM : Hid (mm.length ≤ 90000) := hmm.2
      have HOR : Hid (SrtK (mapP (cleanF c) (s.take k0))) := srt_map (HRT.out.sublist (List.take_sublist _ _))
      have hml : (mapP (cleanF c) (s.take k0)).length ≤ 100000 := by
        have := mapP_len (cleanF c) (s.take k0)
        rw [List.length_take] at this
        omega
      clear hx hl1 hl2 hm1 hm2 hmm
      generalize hg0 : (mapP (cleanF c) (s.take k0)).length = L0 at *
      clear hg0
      go_upto_region 5 with fail
      refine wp_region_held_drew (S := fun W => Below wr.heap.size wr W) (by kernel_rfl) ((Below.refl _ wr).drew) (fun hS0 => ?_)
      refine takeInH 0 14 ?v27 rfl rfl (by kernel_rfl) (by kernel_rfl) (by kernel_rfl) (fun _ _ _ h => h) (by kernel_rfl) hS0 ?hy27 ?_
      case hy27 => (intro W hW; clear hW; go_simp; try rfl)
      simp only [Act.put, List.setIfInBounds_toArray, List.set_cons_zero, List.set_cons_succ]
      refine takeInH 1 15 ?v28 rfl rfl (by kernel_rfl) (by kernel_rfl) (by kernel_rfl) (fun _ _ _ h => h) (by kernel_rfl) hS0 ?hy28 ?_
      case hy28 => (intro W hW; clear hW; go_simp; try rfl)
      simp only [Act.put, List.setIfInBounds_toArray, List.set_cons_zero, List.set_cons_succ]
      refine takeInH 2 16 ?v29 rfl rfl (by kernel_rfl) (by kernel_rfl) (by kernel_rfl) (fun _ _ _ h => h) (by kernel_rfl) hS0 ?hy29 ?_
      case hy29 => (intro W hW; clear hW; go_simp; try rfl)
      simp only [Act.put, List.setIfInBounds_toArray, List.set_cons_zero, List.set_cons_succ]
      refine takeInH 3 17 ?v30 rfl rfl (by kernel_rfl) (by kernel_rfl) (by kernel_rfl) (fun _ _ _ h => h) (by kernel_rfl) hS0 ?hy30 ?_
      case hy30 => (intro W hW; clear hW; go_simp; try rfl)
      simp only [Act.put, List.setIfInBounds_toArray, List.set_cons_zero, List.set_cons_succ]
      refine takeInH 4 18 ?v31 rfl rfl (by kernel_rfl) (by kernel_rfl) (by kernel_rfl) (fun _ _ _ h => h) (by kernel_rfl) hS0 ?hy31 ?_
      case hy31 => (intro W hW; clear hW; go_simp; try rfl)
      simp only [Act.put, List.setIfInBounds_toArray, List.set_cons_zero, List.set_cons_succ]
      refine takeInH 5 19 ?v32 rfl rfl (by kernel_rfl) (by kernel_rfl) (by kernel_rfl) (fun _ _ _ h => h) (by kernel_rfl) hS0 ?hy32 ?_
      case hy32 => (intro W hW; have e0 := bcell hW c0; have e1 := bcell hW c1; have e2 := bcell hW c2; clear hW; go_simp; try rfl)
      simp only [Act.put, List.setIfInBounds_toArray, List.set_cons_zero, List.set_cons_succ]
      refine takeInH 6 20 ?v33 rfl rfl (by kernel_rfl) (by kernel_rfl) (by kernel_rfl) (fun _ _ _ h => h) (by kernel_rfl) hS0 ?hy33 ?_
      case hy33 => (intro W hW; clear hW; go_simp; try rfl)
      simp only [Act.put, List.setIfInBounds_toArray, List.set_cons_zero, List.set_cons_succ]
      refine takeInH 7 21 ?v34 rfl rfl (by kernel_rfl) (by kernel_rfl) (by kernel_rfl) (fun _ _ _ h => h) (by kernel_rfl) hS0 ?hy34 ?_
      case hy34 => (intro W hW; clear hW; go_simp; try rfl)
      simp only [Act.put, List.setIfInBounds_toArray, List.set_cons_zero, List.set_cons_succ]
      refine takeInH 8 22 ?v35 rfl rfl (by kernel_rfl) (by kernel_rfl) (by kernel_rfl) (fun _ _ _ h => h) (by kernel_rfl) hS0 ?hy35 ?_
      case hy35 => (intro W hW; clear hW; go_simp; try rfl)
      simp only [Act.put, List.setIfInBounds_toArray, List.set_cons_zero, List.set_cons_succ]
      refine takeInH 9 23 ?v36 rfl rfl (by kernel_rfl) (by kernel_rfl) (by kernel_rfl) (fun _ _ _ h => h) (by kernel_rfl) hS0 ?hy36 ?_
      case hy36 => (intro W hW; clear hW; go_simp; try rfl)
      simp only [Act.put, List.setIfInBounds_toArray, List.set_cons_zero, List.set_cons_succ]
      refine takeInH 10 24 ?v37 rfl rfl (by kernel_rfl) (by kernel_rfl) (by kernel_rfl) (fun _ _ _ h => h) (by kernel_rfl) hS0 ?hy37 ?_
      case hy37 => (intro W hW; have e0 := bcell hW c0; have e1 := bcell hW c1; have e2 := bcell hW c2; clear hW; go_simp; try rfl)
      simp only [Act.put, List.setIfInBounds_toArray, List.set_cons_zero, List.set_cons_succ]
      refine takeInH 11 25 ?v38 rfl rfl (by kernel_rfl) (by kernel_rfl) (by kernel_rfl) (fun _ _ _ h => h) (by kernel_rfl) hS0 ?hy38 ?_
      case hy38 => (intro W hW; clear hW; go_simp; try rfl)
      simp only [Act.put, List.setIfInBounds_toArray, List.set_cons_zero, List.set_cons_succ]
      refine takeInH 12 26 ?v39 rfl rfl (by kernel_rfl) (by kernel_rfl) (by kernel_rfl) (fun _ _ _ h => h) (by kernel_rfl) hS0 ?hy39 ?_
      case hy39 => (intro W hW; clear hW; go_simp; try rfl)
      simp only [Act.put, List.setIfInBounds_toArray, List.set_cons_zero, List.set_cons_succ]
      refine takeInH 13 27 ?v40 rfl rfl (by kernel_rfl) (by kernel_rfl) (by kernel_rfl) (fun _ _ _ h => h) (by kernel_rfl) hS0 ?hy40 ?_
      case hy40 => (intro W hW; clear hW; go_simp; try rfl)
      simp only [Act.put, List.setIfInBounds_toArray, List.set_cons_zero, List.set_cons_succ]
      refine takeInH 14 28 ?v41 rfl rfl (by kernel_rfl) (by kernel_rfl) (by kernel_rfl) (fun _ _ _ h => h) (by kernel_rfl) hS0 ?hy41 ?_
      case hy41 => (intro W hW; clear hW; go_simp; try rfl)
      simp only [Act.put, List.setIfInBounds_toArray, List.set_cons_zero, List.set_cons_succ]
      refine takeInH 15 29 ?v42 rfl rfl (by kernel_rfl) (by kernel_rfl) (by kernel_rfl) (fun _ _ _ h => h) (by kernel_rfl) hS0 ?hy42 ?_
      case hy42 => (intro W hW; have e0 := bcell hW c0; have e1 := bcell hW c1; have e2 := bcell hW c2; clear hW; go_simp; try rfl)
      simp only [Act.put, List.setIfInBounds_toArray, List.set_cons_zero, List.set_cons_succ]
      refine takeInH 16 30 ?v43 rfl rfl (by kernel_rfl) (by kernel_rfl) (by kernel_rfl) (fun _ _ _ h => h) (by kernel_rfl) hS0 ?hy43 ?_
      case hy43 => (intro W hW; clear hW; go_simp; try rfl)
      simp only [Act.put, List.setIfInBounds_toArray, List.set_cons_zero, List.set_cons_succ]
      refine wpAnyH_ready (rs := [17]) (by kernel_rfl) (by simp) ?_
      refine AllReadyH.cons rfl (fun K hK => ?_) AllReadyH.nil
      go_simp
      refine (LeftR_any pd nd cd mm pa na ca c _ (HM.out.below hS0) (HP.out.below (bel_next HB.out hS0)) (by omega)).mono ?_
      rintro e w4 ⟨v4, rfl, ho4, hb⟩
      obtain ⟨p4, c4, rfl, hd4, hc4⟩ := ho4.open
      have D4 := hide hd4
      have C4 := hide hc4
      clear ho4 hd4 hc4
      refine hK.out _ _ ?hs44 (fun hS1 => ?_)
      case hs44 => exact bel_next hS0 hb
      clear hK K hb
      try simp only [Act.put, List.setIfInBounds_toArray, List.set_cons_zero, List.set_cons_succ]
      refine takeInH 18 32 ?v45 rfl rfl (by kernel_rfl) (by kernel_rfl) (by kernel_rfl) (fun _ _ _ h => h) (by kernel_rfl) hS1 ?hy45 ?_
      case hy45 => (intro W hW; clear hW; go_simp; try rfl)
      simp only [Act.put, List.setIfInBounds_toArray, List.set_cons_zero, List.set_cons_succ]
      refine wpAnyH_ready (rs := [19]) (by kernel_rfl) (by simp) ?_
      refine AllReadyH.cons rfl (fun K hK => ?_) AllReadyH.nil
      go_simp
      refine (PutP_ref p0 L0 cp0 (mapP (cleanF c) (s.take k0)) k pl nl cl ll p4 _ c4 _ _ (HN0.out.below hS1) HOR.out (HL.out.below hS1) HLC.out D4.out C4.out hml (by omega) (by have := HLM.out; have := left_len mm c; omega)).mono ?_
      rintro e w6 ⟨p6, c6, rfl, hn6, hc6, hb⟩
      have HN6 := hide hn6
      have HC6 := hide hc6
      clear hn6 hc6
      refine hK.out _ _ ?hs46 (fun hS2 => ?_)
      case hs46 => exact bel_next hS1 hb
      clear hK K hb
      try simp only [Act.put, List.setIfInBounds_toArray, List.set_cons_zero, List.set_cons_succ]
      refine takeInH 20 5 ?v47 rfl rfl (by kernel_rfl) (by kernel_rfl) (by kernel_rfl) (fun _ _ _ h => h) (by kernel_rfl) hS2 ?hy47 ?_
      case hy47 => (intro W hW; clear hW; go_simp; try rfl)
      simp only [Act.put, List.setIfInBounds_toArray, List.set_cons_zero, List.set_cons_succ]
      refine wpAnyH_done (by kernel_rfl) ?_ _
      go_wp2
      go_roundw
      case rel => exact ⟨k0 + 1, by omega, by go_num, ⟨p6, c6, by rw [HM2.out]; rfl, (show Hid _ by rw [HM2.out]; exact HN6), (show Hid _ by rw [HM2.out]; exact HC6)⟩, (show Hid _ from bel_next HB.out hS2)⟩
      case measure => simp [intOf]; omega
    · obtain rfl : k0 = n := by omega
      have HE : Hid (s.take k0 = s) := by unfold Hid; rw [← HLEN.out, List.take_length]
      rw [HE.out] at HN0 HC0 ⊢
      go_wp2
      go_ret
      exact ⟨p0, cp0, rfl, HN0.out, HC0.out, HB.out⟩
set_option maxHeartbeats 4000000 in
set_option maxRecDepth 2000 in
theorem Plain9_ref (a : Option Addr) (n cap : Nat) (s : List En) (w : World) (hA : NSS w a n s) (hS : SrtK s) (hn : n ≤ 90000) (hd : ∀ x ∈ s, x.2.1.length ≤ 90000 ∧ x.2.2.length ≤ 90000) : Calls Try.prog 23 #[.slice a n cap] w fun e w' => ∃ p cp, e = .returned (.slice p (mapP plainF s).length cp) ∧ NSS w' p (mapP plainF s).length (mapP plainF s) ∧ CP p (mapP plainF s).length cp ∧ Below w.heap.size w w' := by
  have HV := hide hA
  have HLEN := hide hA.len
  have HRT := hide hS
  have HDD := hide hd
  clear hA hS hd
  have HB0 := hide (bel1 w (.cells #[] 48))
  go_enter Try.func23, Try.ntmps23
  go_wp2
  go_loopw [3, 4] (fun V i wr => ∃ k : Nat, k ≤ n ∧ i = .int .i64 k ∧ (∃ p cp, V = .slice p (mapP plainF (s.take k)).length cp ∧ Hid (NSS wr p (mapP plainF (s.take k)).length (mapP plainF (s.take k))) ∧ Hid (CP p (mapP plainF (s.take k)).length cp)) ∧ Hid (Below w.heap.size w wr)) (fun _ i _ => n - (intOf i).toNat)
  case atStart => exact ⟨0, by omega, rfl, ⟨some ⟨w.heap.size, 0, none⟩, 0, rfl, NSS.nil _ _, ⟨Nat.le_refl _, by decide, fun h => by cases h⟩⟩, HB0⟩
  case round =>
    clear HB0
    obtain ⟨k0, hk, rfl, ⟨p0, cp0, rfl, HN0, HC0⟩, HB⟩ := hrel
    by_cases hlt : k0 < n
    · obtain ⟨b, off, rfl⟩ := HV.out.addr (by omega)
      obtain ⟨k, pl, nl, cl, pd, nd, cd, ll, mm, hx, c0, c1, c2, hl1, hl2, hm1, hm2⟩ := (HV.out.below HB.out).at k0 hlt
      have hk0 : (0 : Int) ≤ (k0 : Int) := by omega
      have hk1 : (k0 : Int) < (n : Int) := by omega
      have HM2 : Hid (mapP plainF (s.take (k0 + 1)) = putP (mapP plainF (s.take k0)) k (plainF (ll, mm))) := map_step HRT.out hx
      have hmm := HDD.out _ (List.mem_of_getElem? hx)
      have HL := hide hl1
      have HLC := hide hl2
      have HM := hide hm1
      have hnl : nl ≤ 90000 := by rw [← hl1.1]; exact hmm.1
      have hnd : nd ≤ 90000 := by rw [← hm1.1]; exact hmm.2
      have HLM : Hid (mm.length ≤ 90000) := hmm.2
      have HOR : Hid (SrtK (mapP plainF (s.take k0))) := srt_map (HRT.out.sublist (List.take_sublist _ _))
      have hml : (mapP plainF (s.take k0)).length ≤ 100000 := by
        have := mapP_len plainF (s.take k0)
        rw [List.length_take] at this
        omega
      clear hx hl1 hl2 hm1 hm2 hmm
      generalize hg0 : (mapP plainF (s.take k0)).length = L0 at *
      clear hg0
      go_upto_region 5 with fail
      refine wp_region_held_drew (S := fun W => Below wr.heap.size wr W) (by kernel_rfl) ((Below.refl _ wr).drew) (fun hS0 => ?_)
      refine takeInH 0 12 ?v48 rfl rfl (by kernel_rfl) (by kernel_rfl) (by kernel_rfl) (fun _ _ _ h => h) (by kernel_rfl) hS0 ?hy48 ?_
      case hy48 => (intro W hW; clear hW; go_simp; try rfl)
      simp only [Act.put, List.setIfInBounds_toArray, List.set_cons_zero, List.set_cons_succ]
      refine takeInH 1 13 ?v49 rfl rfl (by kernel_rfl) (by kernel_rfl) (by kernel_rfl) (fun _ _ _ h => h) (by kernel_rfl) hS0 ?hy49 ?_
      case hy49 => (intro W hW; clear hW; go_simp; try rfl)
      simp only [Act.put, List.setIfInBounds_toArray, List.set_cons_zero, List.set_cons_succ]
      refine takeInH 2 14 ?v50 rfl rfl (by kernel_rfl) (by kernel_rfl) (by kernel_rfl) (fun _ _ _ h => h) (by kernel_rfl) hS0 ?hy50 ?_
      case hy50 => (intro W hW; clear hW; go_simp; try rfl)
      simp only [Act.put, List.setIfInBounds_toArray, List.set_cons_zero, List.set_cons_succ]
      refine takeInH 3 15 ?v51 rfl rfl (by kernel_rfl) (by kernel_rfl) (by kernel_rfl) (fun _ _ _ h => h) (by kernel_rfl) hS0 ?hy51 ?_
      case hy51 => (intro W hW; clear hW; go_simp; try rfl)
      simp only [Act.put, List.setIfInBounds_toArray, List.set_cons_zero, List.set_cons_succ]
      refine takeInH 4 16 ?v52 rfl rfl (by kernel_rfl) (by kernel_rfl) (by kernel_rfl) (fun _ _ _ h => h) (by kernel_rfl) hS0 ?hy52 ?_
      case hy52 => (intro W hW; clear hW; go_simp; try rfl)
      simp only [Act.put, List.setIfInBounds_toArray, List.set_cons_zero, List.set_cons_succ]
      refine takeInH 5 17 ?v53 rfl rfl (by kernel_rfl) (by kernel_rfl) (by kernel_rfl) (fun _ _ _ h => h) (by kernel_rfl) hS0 ?hy53 ?_
      case hy53 => (intro W hW; have e0 := bcell hW c0; have e1 := bcell hW c1; have e2 := bcell hW c2; clear hW; go_simp; try rfl)
      simp only [Act.put, List.setIfInBounds_toArray, List.set_cons_zero, List.set_cons_succ]
      refine takeInH 6 18 ?v54 rfl rfl (by kernel_rfl) (by kernel_rfl) (by kernel_rfl) (fun _ _ _ h => h) (by kernel_rfl) hS0 ?hy54 ?_
      case hy54 => (intro W hW; clear hW; go_simp; try rfl)
      simp only [Act.put, List.setIfInBounds_toArray, List.set_cons_zero, List.set_cons_succ]
      refine takeInH 7 19 ?v55 rfl rfl (by kernel_rfl) (by kernel_rfl) (by kernel_rfl) (fun _ _ _ h => h) (by kernel_rfl) hS0 ?hy55 ?_
      case hy55 => (intro W hW; clear hW; go_simp; try rfl)
      simp only [Act.put, List.setIfInBounds_toArray, List.set_cons_zero, List.set_cons_succ]
      refine takeInH 8 20 ?v56 rfl rfl (by kernel_rfl) (by kernel_rfl) (by kernel_rfl) (fun _ _ _ h => h) (by kernel_rfl) hS0 ?hy56 ?_
      case hy56 => (intro W hW; clear hW; go_simp; try rfl)
      simp only [Act.put, List.setIfInBounds_toArray, List.set_cons_zero, List.set_cons_succ]
      refine takeInH 9 21 ?v57 rfl rfl (by kernel_rfl) (by kernel_rfl) (by kernel_rfl) (fun _ _ _ h => h) (by kernel_rfl) hS0 ?hy57 ?_
      case hy57 => (intro W hW; clear hW; go_simp; try rfl)
      simp only [Act.put, List.setIfInBounds_toArray, List.set_cons_zero, List.set_cons_succ]
      refine takeInH 10 22 ?v58 rfl rfl (by kernel_rfl) (by kernel_rfl) (by kernel_rfl) (fun _ _ _ h => h) (by kernel_rfl) hS0 ?hy58 ?_
      case hy58 => (intro W hW; have e0 := bcell hW c0; have e1 := bcell hW c1; have e2 := bcell hW c2; clear hW; go_simp; try rfl)
      simp only [Act.put, List.setIfInBounds_toArray, List.set_cons_zero, List.set_cons_succ]
      refine takeInH 11 23 ?v59 rfl rfl (by kernel_rfl) (by kernel_rfl) (by kernel_rfl) (fun _ _ _ h => h) (by kernel_rfl) hS0 ?hy59 ?_
      case hy59 => (intro W hW; clear hW; go_simp; try rfl)
      simp only [Act.put, List.setIfInBounds_toArray, List.set_cons_zero, List.set_cons_succ]
      refine wpAnyH_ready (rs := [12]) (by kernel_rfl) (by simp) ?_
      refine AllReadyH.cons rfl (fun K hK => ?_) AllReadyH.nil
      go_simp
      refine (PutP_ref p0 L0 cp0 (mapP plainF (s.take k0)) k pl nl cl ll none 0 0 [] _ (HN0.out.below hS0) HOR.out (HL.out.below hS0) HLC.out (DS.nil _ _) ⟨Nat.le_refl _, by decide, fun _ => rfl⟩ hml (by omega) (by omega)).mono ?_
      rintro e w6 ⟨p6, c6, rfl, hn6, hc6, hb⟩
      have HN6 := hide hn6
      have HC6 := hide hc6
      clear hn6 hc6
      refine hK.out _ _ ?hs60 (fun hS1 => ?_)
      case hs60 => exact bel_next hS0 hb
      clear hK K hb
      try simp only [Act.put, List.setIfInBounds_toArray, List.set_cons_zero, List.set_cons_succ]
      refine takeInH 13 3 ?v61 rfl rfl (by kernel_rfl) (by kernel_rfl) (by kernel_rfl) (fun _ _ _ h => h) (by kernel_rfl) hS1 ?hy61 ?_
      case hy61 => (intro W hW; clear hW; go_simp; try rfl)
      simp only [Act.put, List.setIfInBounds_toArray, List.set_cons_zero, List.set_cons_succ]
      refine wpAnyH_done (by kernel_rfl) ?_ _
      go_wp2
      go_roundw
      case rel => exact ⟨k0 + 1, by omega, by go_num, ⟨p6, c6, by rw [HM2.out]; rfl, (show Hid _ by rw [HM2.out]; exact HN6), (show Hid _ by rw [HM2.out]; exact HC6)⟩, (show Hid _ from bel_next HB.out hS1)⟩
      case measure => simp [intOf]; omega
    · obtain rfl : k0 = n := by omega
      have HE : Hid (s.take k0 = s) := by unfold Hid; rw [← HLEN.out, List.take_length]
      rw [HE.out] at HN0 HC0 ⊢
      go_wp2
      go_ret
      exact ⟨p0, cp0, rfl, HN0.out, HC0.out, HB.out⟩
end Go.Proofs.Ytiodlpoeifmldaa
