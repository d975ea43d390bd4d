/- Texts of this claim, joined: HQ1, A7b. -/
import Derived.Laws.StructEq
import Derived.Test.YtkbbegbpkndebaaGreatJ38
import Derived.Test.YtkbbegbpkndebaaGreatJ45
import Derived.Test.YtkbbegbpkndebaaGreatJ46
import Derived.Test.YtkbbegbpkndebaaGreatJ48
import Derived.Test.YtkbbegbpkndebaaGreatJ9
/- Does an event do that kind too: slices.Index, slices.Contains of effects, and 'also' of layer 13 (the program). -/
namespace Go.Proofs.YtkbbegbpkndebaaGreat
open Go.RowKit Go.Lib
set_option linter.unusedVariables false
theorem eff_set {y : Eff} (h : mayF y = true) (hk : y.1 = 1 ∨ y.1 = 2) : y.2.2.2.1 = 0 ∧ y.2.2.2.2.1 = 0 ∧ y.2.2.2.2.2 = [] := by
 have q := (mayF13.1 h).2
 unfold fits at q
 rw [decide_eq_true_iff] at q
 refine ⟨by omega, by omega, ?_⟩
 rcases he : y.2.2.2.2.2 with _ | ⟨a, t⟩
 ·rfl
 ·rw [he] at q
  simp only [List.length_cons] at q
  omega
end Go.Proofs.YtkbbegbpkndebaaGreat

/- What the program adds (layer 8), 2. -/
namespace Go.Proofs.YtkbbegbpkndebaaGreat
open Go.RowKit Go.Lib
set_option linter.unusedVariables false
set_option maxHeartbeats 4000000 in
theorem Add_good (a : Option Addr) (n cap : Nat) (s : List En) (t : ByteArray) (r q : Int) (pa : Option Addr) (na ca : Nat) (c : List Int) (w : World) (hA : NSS w a n s) (hcp : CP a n cap) (hP : NS w pa na c) (h1 : mayS s = true) (h2 : mayK t = true) (h3 : mayD (r, q) = true) (h4 : mayC c = true) (hd : ∀ x ∈ s, x.2.1.length ≤ 100000) (hlt : n < 4000) : Calls Tryz.prog 172 #[.slice a n cap, .string t, .agg #[.int .i64 r, .int .i64 q], .slice pa na ca] w fun e w' => ∃ p cp, e = .returned (.tuple #[.slice p (addS s t (r, q) c).length cp, .int .i64 0]) ∧ NSS w' p (addS s t (r, q) c).length (addS s t (r, q) c) ∧ CP p (addS s t (r, q) c).length cp ∧ Below w.heap.size w w' := by
 have HV := hide hA
 have HP := hide hP
 clear hA hP
 have HM1 := hide h3
 have HORD : Hid (ordD ((leftD (getS s t) c) ++ [(r, q)]) = putD (leftD (getS s t) c) (r, q)) := ordD_snoc (rowsB_iff.1 (rowsB_left (rowsB_get h1 t) c)).2 _
 have HCP := hide hcp
 have HMS := hide h1
 have HS := hide (mayS_iff.1 h1).2.1
 have HC1 : Hid (chkS s = 0) := by unfold Hid chkS; rw [h1]; rfl
 have HK1 := hide h2
 have HQ1 : Hid (chk c = 0) := by unfold Hid chk; rw [h4]; rfl
 have HDD := hide hd
 have hn : n ≤ 4000 := by rw [← HV.out.len]; exact (mayS_iff.1 h1).2.2
 have HGL : Hid ((getS s t).length ≤ 100000) := by
  rcases getS_or s t with ⟨e, _⟩ | ⟨x, hx, _, e⟩
  ·rw [e]; exact Nat.zero_le _
  ·rw [e]; exact hd x hx
 clear h1 h2 h4 hd hcp
 have HLL : Hid ((leftD (getS s t) c).length ≤ 100000) := Nat.le_trans (List.length_filter_le _ _) HGL.out
 have BB := hide (bel1 w (.cells #[.int .i64 r, .int .i64 q] 33))
 have d0 := cell_new w #[.int .i64 r, .int .i64 q] 33 _ rfl 0 _ rfl
 have d1 := cell_new w #[.int .i64 r, .int .i64 q] 33 _ rfl 1 _ rfl
 have hn4 : ¬ ((n : Int) = 4000) := by omega
 have hn5 : ¬ (n = 4000) := by omega
 clear h3 hlt
 go_enter Tryz.func172, Tryz.ntmps172
 go_upto_region 4 with (first | (go_at_call 126; refine (Check_any a n cap s _ (HV.out.below BB.out)).mono ?_; rintro e w1 ⟨rfl, hb⟩; rw [HC1.out]; replace BB := hide (bel_next BB.out hb); try replace d0 := bcell hb d0; try replace d1 := bcell hb d1; clear hb) | (go_at_call 193; refine (mayBeKey_any t _).mono ?_; rintro e w1 ⟨rfl, hb⟩; rw [HK1.out]; replace BB := hide (bel_next BB.out hb); try replace d0 := bcell hb d0; try replace d1 := bcell hb d1; clear hb) | (go_at_call 113; refine (May_any r q _).mono ?_; rintro e w1 ⟨rfl, hg⟩; rw [show mayD (r, q) = _ from HM1.out]; have hb := hg.bel; clear hg; replace BB := hide (bel_next BB.out hb); try replace d0 := bcell hb d0; try replace d1 := bcell hb d1; clear hb) | (go_at_call 77; refine (check_any pa na ca c _ (HP.out.below BB.out)).mono ?_; rintro e w1 ⟨rfl, rfl⟩; rw [show chk c = _ from HQ1.out]) | (go_at_call 196; refine (liveOf_any a n cap s t _ (HV.out.below BB.out) HS.out hn).mono ?_; rintro e u ⟨⟨pl, nl, cl, rfl, hl1, hl2, _⟩, hb⟩; have HL1 := hide hl1; replace BB := hide (bel_next BB.out hb); try replace d0 := bcell hb d0; try replace d1 := bcell hb d1; clear hb; clear hl1 hl2))
 by_cases hz : nl = 0
 ·subst hz
  go_upto_region 6 with fail
  clear hn4 hn5
  refine wp_region_held_drew (S := fun W => Below u.heap.size u W) (by kernel_rfl) ((Below.refl _ u).drew) (fun hS0 => ?_)
  refine tkJ 0 40 hS0 ?_; simp only [ly]
  refine tkJ 1 41 hS0 ?_; simp only [ly]
  refine tkJ 2 42 hS0 ?_; simp only [ly]
  refine tkJ 3 43 hS0 ?_; simp only [ly]
  refine tkL 5 45 hS0 ?h ?_; case h => (intro W hW; have e0 := bcell hW d0; have e1 := bcell hW d1; clear hW; go_simp; try rfl); simp only [ly]
  refine wpAnyH_ready (rs := [4, 6]) (by kernel_rfl) (by simp) ?_
  refine AllReadyH.cons rfl (fun K hK => ?_) (AllReadyH.cons rfl (fun K hK => ?_) AllReadyH.nil)
  ·go_simp
   refine (unknown_any pl 0 cl (getS s t) pa na ca c _ (HL1.out.below hS0) (HP.out.below (bel_next BB.out hS0)) (by have := HL1.out.1; have := HGL.out; omega)).mono ?_
   rintro e w3 ⟨v3, rfl, ho3, hb⟩
   have O3 := hide (ho3.mono hS0.size)
   try replace DB := hide (DB.out.below hb)
   clear ho3
   refine hK.out _ _ ?hs25 (fun hS1 => ?_)
   case hs25 => exact bel_next hS0 hb
   clear hK K hb
   try simp only [ly]
   refine wpAnyH_ready (rs := [6]) (by kernel_rfl) (by simp) ?_
   refine AllReadyH.cons rfl (fun K hK => ?_) AllReadyH.nil
   go_simp
   have BW := bel_next hS1 (bel1 w3 (.cells #[.int .i64 r, .int .i64 q] 33))
   have DB := hide (DS.new w3 _ rfl [(r, q)] #[.int .i64 r, .int .i64 q] (by simp [flatD, encD]) 33 (0, 0) 1 rfl (by decide))
   replace O3 := hide (O3.out.below (bel1 w3 (.cells #[.int .i64 r, .int .i64 q] 33)))
   generalize w3.heap.size = gw at DB ⊢
   generalize w3.alloc (.cells #[.int .i64 r, .int .i64 q] 33) = wb at DB O3 BW ⊢
   refine hK.out _ _ ?hs26 (fun hS2 => ?_)
   case hs26 => exact BW
   clear hK K
   try simp only [ly]
   refine wpAnyH_ready (rs := [7]) (by kernel_rfl) (by simp) ?_
   refine AllReadyH.cons rfl (fun K hK => ?_) AllReadyH.nil
   rw [if_pos (by kernel_rfl)]
   refine append_wp _ _ rfl u.heap.size _ (leftD (getS s t) c) [(r, q)] rfl O3.out (some ⟨gw, 0, none⟩) 1 1 rfl (fun h => by cases h) DB.out (by have := HLL.out; rw [List.length_singleton]; omega) hS2.size ?_
   intro v5 w5 ho5 hbel5
   have BS5 := hbel5 _ hS2
   obtain ⟨p5, c5, hv5, hd5, hc5⟩ := ho5.open
   have HN5 : Hid (((leftD (getS s t) c) ++ [(r, q)]).length ≤ 1000000) := by have := HLL.out; unfold Hid; rw [List.length_append, List.length_singleton]; omega
   generalize ((leftD (getS s t) c) ++ [(r, q)]).length = n5 at hv5 hd5 HN5
   subst hv5
   have HD5 := hide hd5
   clear ho5 hbel5 hd5 hc5
   change K (Act.put _ (some 47) _) _
   refine hK.out _ _ ?hs27 (fun hS3 => ?_)
   case hs27 => exact BS5
   clear hK K
   try simp only [ly]
   refine wpAnyH_ready (rs := [8]) (by kernel_rfl) (by simp) ?_
   refine AllReadyH.cons rfl (fun K hK => ?_) AllReadyH.nil
   go_simp
   refine (Order_dots p5 _ c5 ((leftD (getS s t) c) ++ [(r, q)]) _ HD5.out HN5.out).mono ?_
   rw [HORD.out]
   rintro e w6 ⟨p6, c6, rfl, hd6, hc6, hb⟩
   have HD6 := hide hd6
   have HC6 := hide hc6
   clear hd6 hc6
   refine hK.out _ _ ?hs28 (fun hS4 => ?_)
   case hs28 => exact bel_next hS3 hb
   clear hK K hb
   try simp only [ly]
   refine wpAnyH_ready (rs := [9]) (by kernel_rfl) (by simp) ?_
   refine AllReadyH.cons rfl (fun K hK => ?_) AllReadyH.nil
   go_simp
   refine (with_any a n cap s t p6 _ c6 _ _ (HV.out.below (bel_next BB.out hS4)) HCP.out HMS.out HD6.out HC6.out (fun x hx => Nat.le_trans (HDD.out x hx) (by decide))).mono ?_
   rintro e w7 ⟨v7, rfl, ho7, hb⟩
   obtain ⟨p7, c7, rfl, hn7, hc7⟩ := ho7.open
   have HN7 := hide hn7
   have HC7 := hide hc7
   clear ho7 hn7 hc7
   refine hK.out _ _ ?hs29 (fun hS5 => ?_)
   case hs29 => exact bel_next hS4 hb
   clear hK K hb
   try simp only [ly]
   refine tkJ 10 8 hS5 ?_; simp only [ly]
   refine tkJ 11 9 hS5 ?_; simp only [ly]
   refine wpAnyH_done (by kernel_rfl) ?_ _
   go_wp2
   go_ret2
   exact ⟨p7, c7, rfl, HN7.out, HC7.out, bel_next BB.out hS5⟩
  ·go_simp
   have BW : Below u.heap.size u (u.alloc (.cells #[.int .i64 r, .int .i64 q] 33)).drew := (bel1 u (.cells #[.int .i64 r, .int .i64 q] 33)).drew
   have DB := hide (DS.new u _ rfl [(r, q)] #[.int .i64 r, .int .i64 q] (by simp [flatD, encD]) 33 (0, 0) 1 rfl (by decide)).drew
   generalize u.heap.size = gw at DB ⊢
   generalize (u.alloc (.cells #[.int .i64 r, .int .i64 q] 33)).drew = wb at DB BW ⊢
   refine hK.out _ _ ?hs32 (fun hS1 => ?_)
   case hs32 => exact BW
   clear hK K
   try simp only [ly]
   refine wpAnyH_ready (rs := [4]) (by kernel_rfl) (by simp) ?_
   refine AllReadyH.cons rfl (fun K hK => ?_) AllReadyH.nil
   go_simp
   refine (unknown_any pl 0 cl (getS s t) pa na ca c _ (HL1.out.below hS1) (HP.out.below (bel_next BB.out hS1)) (by have := HL1.out.1; have := HGL.out; omega)).mono ?_
   rintro e w3 ⟨v3, rfl, ho3, hb⟩
   have O3 := hide (ho3.mono hS1.size)
   try replace DB := hide (DB.out.below hb)
   clear ho3
   refine hK.out _ _ ?hs33 (fun hS2 => ?_)
   case hs33 => exact bel_next hS1 hb
   clear hK K hb
   try simp only [ly]
   refine wpAnyH_ready (rs := [7]) (by kernel_rfl) (by simp) ?_
   refine AllReadyH.cons rfl (fun K hK => ?_) AllReadyH.nil
   rw [if_pos (by kernel_rfl)]
   refine append_wp _ _ rfl u.heap.size _ (leftD (getS s t) c) [(r, q)] rfl O3.out (some ⟨gw, 0, none⟩) 1 1 rfl (fun h => by cases h) DB.out (by have := HLL.out; rw [List.length_singleton]; omega) hS2.size ?_
   intro v5 w5 ho5 hbel5
   have BS5 := hbel5 _ hS2
   obtain ⟨p5, c5, hv5, hd5, hc5⟩ := ho5.open
   have HN5 : Hid (((leftD (getS s t) c) ++ [(r, q)]).length ≤ 1000000) := by have := HLL.out; unfold Hid; rw [List.length_append, List.length_singleton]; omega
   generalize ((leftD (getS s t) c) ++ [(r, q)]).length = n5 at hv5 hd5 HN5
   subst hv5
   have HD5 := hide hd5
   clear ho5 hbel5 hd5 hc5
   change K (Act.put _ (some 47) _) _
   refine hK.out _ _ ?hs34 (fun hS3 => ?_)
   case hs34 => exact BS5
   clear hK K
   try simp only [ly]
   refine wpAnyH_ready (rs := [8]) (by kernel_rfl) (by simp) ?_
   refine AllReadyH.cons rfl (fun K hK => ?_) AllReadyH.nil
   go_simp
   refine (Order_dots p5 _ c5 ((leftD (getS s t) c) ++ [(r, q)]) _ HD5.out HN5.out).mono ?_
   rw [HORD.out]
   rintro e w6 ⟨p6, c6, rfl, hd6, hc6, hb⟩
   have HD6 := hide hd6
   have HC6 := hide hc6
   clear hd6 hc6
   refine hK.out _ _ ?hs35 (fun hS4 => ?_)
   case hs35 => exact bel_next hS3 hb
   clear hK K hb
   try simp only [ly]
   refine wpAnyH_ready (rs := [9]) (by kernel_rfl) (by simp) ?_
   refine AllReadyH.cons rfl (fun K hK => ?_) AllReadyH.nil
   go_simp
   refine (with_any a n cap s t p6 _ c6 _ _ (HV.out.below (bel_next BB.out hS4)) HCP.out HMS.out HD6.out HC6.out (fun x hx => Nat.le_trans (HDD.out x hx) (by decide))).mono ?_
   rintro e w7 ⟨v7, rfl, ho7, hb⟩
   obtain ⟨p7, c7, rfl, hn7, hc7⟩ := ho7.open
   have HN7 := hide hn7
   have HC7 := hide hc7
   clear ho7 hn7 hc7
   refine hK.out _ _ ?hs36 (fun hS5 => ?_)
   case hs36 => exact bel_next hS4 hb
   clear hK K hb
   try simp only [ly]
   refine tkJ 10 8 hS5 ?_; simp only [ly]
   refine tkJ 11 9 hS5 ?_; simp only [ly]
   refine wpAnyH_done (by kernel_rfl) ?_ _
   go_wp2
   go_ret2
   exact ⟨p7, c7, rfl, HN7.out, HC7.out, bel_next BB.out hS5⟩
 ·have hz2 : ¬ ((nl : Int) = 0) := by omega
  go_upto_region 6 with fail
  clear hz hz2 hn4 hn5
  refine wp_region_held_drew (S := fun W => Below u.heap.size u W) (by kernel_rfl) ((Below.refl _ u).drew) (fun hS0 => ?_)
  refine tkJ 0 40 hS0 ?_; simp only [ly]
  refine tkJ 1 41 hS0 ?_; simp only [ly]
  refine tkJ 2 42 hS0 ?_; simp only [ly]
  refine tkJ 3 43 hS0 ?_; simp only [ly]
  refine tkL 5 45 hS0 ?h ?_; case h => (intro W hW; have e0 := bcell hW d0; have e1 := bcell hW d1; clear hW; go_simp; try rfl); simp only [ly]
  refine wpAnyH_ready (rs := [4, 6]) (by kernel_rfl) (by simp) ?_
  refine AllReadyH.cons rfl (fun K hK => ?_) (AllReadyH.cons rfl (fun K hK => ?_) AllReadyH.nil)
  ·go_simp
   refine (unknown_any pl nl cl (getS s t) pa na ca c _ (HL1.out.below hS0) (HP.out.below (bel_next BB.out hS0)) (by have := HL1.out.1; have := HGL.out; omega)).mono ?_
   rintro e w3 ⟨v3, rfl, ho3, hb⟩
   have O3 := hide (ho3.mono hS0.size)
   try replace DB := hide (DB.out.below hb)
   clear ho3
   refine hK.out _ _ ?hs6 (fun hS1 => ?_)
   case hs6 => exact bel_next hS0 hb
   clear hK K hb
   try simp only [ly]
   refine wpAnyH_ready (rs := [6]) (by kernel_rfl) (by simp) ?_
   refine AllReadyH.cons rfl (fun K hK => ?_) AllReadyH.nil
   go_simp
   have BW := bel_next hS1 (bel1 w3 (.cells #[.int .i64 r, .int .i64 q] 33))
   have DB := hide (DS.new w3 _ rfl [(r, q)] #[.int .i64 r, .int .i64 q] (by simp [flatD, encD]) 33 (0, 0) 1 rfl (by decide))
   replace O3 := hide (O3.out.below (bel1 w3 (.cells #[.int .i64 r, .int .i64 q] 33)))
   generalize w3.heap.size = gw at DB ⊢
   generalize w3.alloc (.cells #[.int .i64 r, .int .i64 q] 33) = wb at DB O3 BW ⊢
   refine hK.out _ _ ?hs7 (fun hS2 => ?_)
   case hs7 => exact BW
   clear hK K
   try simp only [ly]
   refine wpAnyH_ready (rs := [7]) (by kernel_rfl) (by simp) ?_
   refine AllReadyH.cons rfl (fun K hK => ?_) AllReadyH.nil
   rw [if_pos (by kernel_rfl)]
   refine append_wp _ _ rfl u.heap.size _ (leftD (getS s t) c) [(r, q)] rfl O3.out (some ⟨gw, 0, none⟩) 1 1 rfl (fun h => by cases h) DB.out (by have := HLL.out; rw [List.length_singleton]; omega) hS2.size ?_
   intro v5 w5 ho5 hbel5
   have BS5 := hbel5 _ hS2
   obtain ⟨p5, c5, hv5, hd5, hc5⟩ := ho5.open
   have HN5 : Hid (((leftD (getS s t) c) ++ [(r, q)]).length ≤ 1000000) := by have := HLL.out; unfold Hid; rw [List.length_append, List.length_singleton]; omega
   generalize ((leftD (getS s t) c) ++ [(r, q)]).length = n5 at hv5 hd5 HN5
   subst hv5
   have HD5 := hide hd5
   clear ho5 hbel5 hd5 hc5
   change K (Act.put _ (some 47) _) _
   refine hK.out _ _ ?hs8 (fun hS3 => ?_)
   case hs8 => exact BS5
   clear hK K
   try simp only [ly]
   refine wpAnyH_ready (rs := [8]) (by kernel_rfl) (by simp) ?_
   refine AllReadyH.cons rfl (fun K hK => ?_) AllReadyH.nil
   go_simp
   refine (Order_dots p5 _ c5 ((leftD (getS s t) c) ++ [(r, q)]) _ HD5.out HN5.out).mono ?_
   rw [HORD.out]
   rintro e w6 ⟨p6, c6, rfl, hd6, hc6, hb⟩
   have HD6 := hide hd6
   have HC6 := hide hc6
   clear hd6 hc6
   refine hK.out _ _ ?hs9 (fun hS4 => ?_)
   case hs9 => exact bel_next hS3 hb
   clear hK K hb
   try simp only [ly]
   refine wpAnyH_ready (rs := [9]) (by kernel_rfl) (by simp) ?_
   refine AllReadyH.cons rfl (fun K hK => ?_) AllReadyH.nil
   go_simp
   refine (with_any a n cap s t p6 _ c6 _ _ (HV.out.below (bel_next BB.out hS4)) HCP.out HMS.out HD6.out HC6.out (fun x hx => Nat.le_trans (HDD.out x hx) (by decide))).mono ?_
   rintro e w7 ⟨v7, rfl, ho7, hb⟩
   obtain ⟨p7, c7, rfl, hn7, hc7⟩ := ho7.open
   have HN7 := hide hn7
   have HC7 := hide hc7
   clear ho7 hn7 hc7
   refine hK.out _ _ ?hs10 (fun hS5 => ?_)
   case hs10 => exact bel_next hS4 hb
   clear hK K hb
   try simp only [ly]
   refine tkJ 10 8 hS5 ?_; simp only [ly]
   refine tkJ 11 9 hS5 ?_; simp only [ly]
   refine wpAnyH_done (by kernel_rfl) ?_ _
   go_wp2
   go_ret2
   exact ⟨p7, c7, rfl, HN7.out, HC7.out, bel_next BB.out hS5⟩
  ·go_simp
   have BW : Below u.heap.size u (u.alloc (.cells #[.int .i64 r, .int .i64 q] 33)).drew := (bel1 u (.cells #[.int .i64 r, .int .i64 q] 33)).drew
   have DB := hide (DS.new u _ rfl [(r, q)] #[.int .i64 r, .int .i64 q] (by simp [flatD, encD]) 33 (0, 0) 1 rfl (by decide)).drew
   generalize u.heap.size = gw at DB ⊢
   generalize (u.alloc (.cells #[.int .i64 r, .int .i64 q] 33)).drew = wb at DB BW ⊢
   refine hK.out _ _ ?hs13 (fun hS1 => ?_)
   case hs13 => exact BW
   clear hK K
   try simp only [ly]
   refine wpAnyH_ready (rs := [4]) (by kernel_rfl) (by simp) ?_
   refine AllReadyH.cons rfl (fun K hK => ?_) AllReadyH.nil
   go_simp
   refine (unknown_any pl nl cl (getS s t) pa na ca c _ (HL1.out.below hS1) (HP.out.below (bel_next BB.out hS1)) (by have := HL1.out.1; have := HGL.out; omega)).mono ?_
   rintro e w3 ⟨v3, rfl, ho3, hb⟩
   have O3 := hide (ho3.mono hS1.size)
   try replace DB := hide (DB.out.below hb)
   clear ho3
   refine hK.out _ _ ?hs14 (fun hS2 => ?_)
   case hs14 => exact bel_next hS1 hb
   clear hK K hb
   try simp only [ly]
   refine wpAnyH_ready (rs := [7]) (by kernel_rfl) (by simp) ?_
   refine AllReadyH.cons rfl (fun K hK => ?_) AllReadyH.nil
   rw [if_pos (by kernel_rfl)]
   refine append_wp _ _ rfl u.heap.size _ (leftD (getS s t) c) [(r, q)] rfl O3.out (some ⟨gw, 0, none⟩) 1 1 rfl (fun h => by cases h) DB.out (by have := HLL.out; rw [List.length_singleton]; omega) hS2.size ?_
   intro v5 w5 ho5 hbel5
   have BS5 := hbel5 _ hS2
   obtain ⟨p5, c5, hv5, hd5, hc5⟩ := ho5.open
   have HN5 : Hid (((leftD (getS s t) c) ++ [(r, q)]).length ≤ 1000000) := by have := HLL.out; unfold Hid; rw [List.length_append, List.length_singleton]; omega
   generalize ((leftD (getS s t) c) ++ [(r, q)]).length = n5 at hv5 hd5 HN5
   subst hv5
   have HD5 := hide hd5
   clear ho5 hbel5 hd5 hc5
   change K (Act.put _ (some 47) _) _
   refine hK.out _ _ ?hs15 (fun hS3 => ?_)
   case hs15 => exact BS5
   clear hK K
   try simp only [ly]
   refine wpAnyH_ready (rs := [8]) (by kernel_rfl) (by simp) ?_
   refine AllReadyH.cons rfl (fun K hK => ?_) AllReadyH.nil
   go_simp
   refine (Order_dots p5 _ c5 ((leftD (getS s t) c) ++ [(r, q)]) _ HD5.out HN5.out).mono ?_
   rw [HORD.out]
   rintro e w6 ⟨p6, c6, rfl, hd6, hc6, hb⟩
   have HD6 := hide hd6
   have HC6 := hide hc6
   clear hd6 hc6
   refine hK.out _ _ ?hs16 (fun hS4 => ?_)
   case hs16 => exact bel_next hS3 hb
   clear hK K hb
   try simp only [ly]
   refine wpAnyH_ready (rs := [9]) (by kernel_rfl) (by simp) ?_
   refine AllReadyH.cons rfl (fun K hK => ?_) AllReadyH.nil
   go_simp
   refine (with_any a n cap s t p6 _ c6 _ _ (HV.out.below (bel_next BB.out hS4)) HCP.out HMS.out HD6.out HC6.out (fun x hx => Nat.le_trans (HDD.out x hx) (by decide))).mono ?_
   rintro e w7 ⟨v7, rfl, ho7, hb⟩
   obtain ⟨p7, c7, rfl, hn7, hc7⟩ := ho7.open
   have HN7 := hide hn7
   have HC7 := hide hc7
   clear ho7 hn7 hc7
   refine hK.out _ _ ?hs17 (fun hS5 => ?_)
   case hs17 => exact bel_next hS4 hb
   clear hK K hb
   try simp only [ly]
   refine tkJ 10 8 hS5 ?_; simp only [ly]
   refine tkJ 11 9 hS5 ?_; simp only [ly]
   refine wpAnyH_done (by kernel_rfl) ?_ _
   go_wp2
   go_ret2
   exact ⟨p7, c7, rfl, HN7.out, HC7.out, bel_next BB.out hS5⟩
end Go.Proofs.YtkbbegbpkndebaaGreat

