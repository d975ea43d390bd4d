/- Texts of this claim, joined: Z15, Z16. -/
import Derived.Shelf.Spec.SlicesInsert
import Derived.Lib.AppendZerosOnto
import Derived.Laws.NewBlocks
import Derived.Laws.CopyRow
import Derived.Test.YtkbbegbpkndebaaGreatJ17
import Derived.Test.YtkbbegbpkndebaaGreatJ35
import Derived.Test.YtkbbegbpkndebaaGreatJ37
import Derived.Test.YtkbbegbpkndebaaGreatJ38
/- What the program adds, drops, cleans, tells (layer 9). -/
namespace Go.Proofs.YtkbbegbpkndebaaGreat
open Go.RowKit Go.Lib
set_option linter.unusedVariables false
set_option maxHeartbeats 2000000 in
set_option maxRecDepth 2000 in
theorem Clean9_good (a : Option Addr) (n cap : Nat) (s : List En) (pa : Option Addr) (na ca : Nat) (c : List Int) (w : World) (hA : NSS w a n s) (hP : NS w pa na c) (h1 : mayS9 s = true) (h2 : mayC c = true) (hd : ∀ x ∈ s, x.2.1.length ≤ 900000 ∧ x.2.2.length ≤ 900000) : Calls Tryz.prog 79 #[.slice a n cap, .slice pa na ca] w fun e w' => ∃ p cp, e = .returned (.tuple #[.slice p (mapP (cleanF c) s).length cp, .int .i64 0]) ∧ NSS w' p (mapP (cleanF c) s).length (mapP (cleanF c) s) ∧ CP p (mapP (cleanF c) s).length cp ∧ Below w.heap.size w w' := by
 have hn4 : n ≤ 4000 := by rw [← hA.len]; exact (mayS9_iff.1 h1).2.2
 have HV := hide hA
 have HP := hide hP
 clear hA hP
 have BB := hide (bel1 w (.cells #[.slice pa na ca] 35))
 have d0 := cell_new w #[.slice pa na ca] 35 _ rfl 0 _ rfl
 have HC1 := hide (chk9_yes h1)
 have HQ1 : Hid (chk c = 0) := by unfold Hid chk; rw [h2]; rfl
 have HDD := hide hd
 clear h1 h2 hd
 go_enter Tryz.func79, Tryz.ntmps79
 go_wp2_with (first | (go_at_call 125; refine (chk9_any a n cap s _ (HV.out.below BB.out)).mono ?_; rintro e w1 ⟨rfl, hb⟩; rw [HC1.out]; replace BB := hide (bel_next BB.out hb); replace d0 := bcell hb d0; clear hb) | (go_at_call 77; refine (check_any pa na ca c _ (HP.out.below BB.out)).mono ?_; rintro e w9 ⟨rfl, rfl⟩; rw [show chk c = _ from HQ1.out]) | (go_at_call 138; refine (eachC9_any a n cap s w.heap.size pa na ca c _ (HV.out.below BB.out) hn4 HDD.out d0 (HP.out.below BB.out)).mono ?_; rintro e w3 ⟨v3, rfl, ho3, hb⟩; obtain ⟨p3, c3, rfl, hn3, hc3⟩ := ho3.open; have HN3 := hide hn3; have HC3 := hide hc3; replace BB := hide (bel_next BB.out hb); clear hb ho3 hn3 hc3))
 go_ret2
 exact ⟨p3, c3, rfl, HN3.out, HC3.out, BB.out⟩
def pl9 (s : List En) : List En := if mayS9 s = true then mapP plainF s else []
set_option maxHeartbeats 2000000 in
set_option maxRecDepth 2000 in
theorem Plain9_any (a : Option Addr) (n cap : Nat) (s : List En) (w : World) (hA : NSS w a n s) (hd : ∀ x ∈ s, x.2.1.length ≤ 900000 ∧ x.2.2.length ≤ 900000) : Calls Tryz.prog 76 #[.slice a n cap] w fun e w' => ∃ p cp, e = .returned (.slice p (pl9 s).length cp) ∧ NSS w' p (pl9 s).length (pl9 s) ∧ CP p (pl9 s).length cp ∧ Below w.heap.size w w' := by
 have HV := hide hA
 have HLEN := hide hA.len
 have HDD := hide hd
 clear hA hd
 have BB : Hid (Below w.heap.size w w) := Below.refl _ _
 rcases hx : mayS9 s with _ | _
 ·have HC1 := hide (chk9_no hx)
  have HE : Hid (pl9 s = []) := by unfold Hid pl9; rw [hx]; rfl
  clear hx
  rw [HE.out]
  go_enter Tryz.func76, Tryz.ntmps76
  go_wp2_with (go_at_call 125; refine (chk9_any a n cap s _ (HV.out.below BB.out)).mono ?_; rintro e w1 ⟨rfl, hb⟩; rw [HC1.out]; replace BB := hide (bel_next BB.out hb); clear hb)
  go_ret
  exact ⟨none, 0, rfl, NSS.nil _ _, ⟨Nat.le_refl _, by decide, fun _ => rfl⟩, BB.out⟩
 ·have HC1 := hide (chk9_yes hx)
  have HE : Hid (pl9 s = mapP plainF s) := by unfold Hid pl9; rw [if_pos hx]
  have hn4 : n ≤ 4000 := by rw [← HLEN.out]; exact (mayS9_iff.1 hx).2.2
  clear hx
  rw [HE.out]
  go_enter Tryz.func76, Tryz.ntmps76
  go_wp2_with (first | (go_at_call 125; refine (chk9_any a n cap s _ (HV.out.below BB.out)).mono ?_; rintro e w1 ⟨rfl, hb⟩; rw [HC1.out]; replace BB := hide (bel_next BB.out hb); clear hb) | (go_at_call 138; refine (eachP9_any a n cap s _ (HV.out.below BB.out) hn4 HDD.out).mono ?_; rintro e w3 ⟨v3, rfl, ho3, hb⟩; obtain ⟨p3, c3, rfl, hn3, hc3⟩ := ho3.open; have HN3 := hide hn3; have HC3 := hide hc3; replace BB := hide (bel_next BB.out hb); clear hb ho3 hn3 hc3))
  go_ret
  exact ⟨p3, c3, rfl, HN3.out, HC3.out, BB.out⟩
end Go.Proofs.YtkbbegbpkndebaaGreat

/- The document's Add, Drop, Clean, Plain (layer 9). -/
namespace Go.Proofs.YtkbbegbpkndebaaGreat
open Go.RowKit Go.Lib
set_option linter.unusedVariables false
set_option maxHeartbeats 4000000 in
set_option maxRecDepth 2000 in
theorem Clean9_ref (a : Option Addr) (n cap : Nat) (s : List En) (pa : Option Addr) (na ca : Nat) (c : List Int) (w : World) (hA : NSS w a n s) (hS : SrtK s) (hP : NS w pa na c) (hn : n ≤ 90000) (hd : ∀ x ∈ s, x.2.1.length ≤ 90000 ∧ x.2.2.length ≤ 90000) : Calls Tryz.prog 101 #[.slice a n cap, .slice pa na ca] w fun e w' => ∃ p cp, e = .returned (.slice p (mapP (cleanF c) s).length cp) ∧ NSS w' p (mapP (cleanF c) s).length (mapP (cleanF c) s) ∧ CP p (mapP (cleanF c) s).length cp ∧ Below w.heap.size w w' := by
 have HV := hide hA
 have HLEN := hide hA.len
 have HP := hide hP
 clear hP
 have HRT := hide hS
 have HDD := hide hd
 clear hA hS hd
 have HB0 := hide (bel1 w (.cells #[] 125))
 go_enter Tryz.func101, Tryz.ntmps101
 go_wp2
 go_loopw [5, 6] (fun V i wr => ∃ k : Nat, k ≤ n ∧ i = .int .i64 k ∧ (∃ p cp, V = .slice p (mapP (cleanF c) (s.take k)).length cp ∧ Hid (NSS wr p (mapP (cleanF c) (s.take k)).length (mapP (cleanF c) (s.take k))) ∧ Hid (CP p (mapP (cleanF c) (s.take k)).length cp)) ∧ Hid (Below w.heap.size w wr)) (fun _ i _ => n - (RowKit.intOf i).toNat)
 case atStart => exact ⟨0, by omega, rfl, ⟨some ⟨w.heap.size, 0, none⟩, 0, rfl, NSS.nil _ _, ⟨Nat.le_refl _, by decide, fun h => by cases h⟩⟩, HB0⟩
 case round =>
  clear HB0
  obtain ⟨k0, hk, rfl, ⟨p0, cp0, rfl, HN0, HC0⟩, HB⟩ := hrel
  by_cases hlt : k0 < n
  ·obtain ⟨b, off, rfl⟩ := HV.out.addr (by omega)
   obtain ⟨k, pl, nl, cl, pd, nd, cd, ll, mm, hx, c0, c1, c2, hl1, hl2, hm1, hm2⟩ := (HV.out.below HB.out).at k0 hlt
   have hk0 : (0 : Int) ≤ (k0 : Int) := by omega
   have hk1 : (k0 : Int) < (n : Int) := by omega
   have HM2 : Hid (mapP (cleanF c) (s.take (k0 + 1)) = putP (mapP (cleanF c) (s.take k0)) k ((cleanF c) (ll, mm))) := map_step HRT.out hx
   have hmm := HDD.out _ (List.mem_of_getElem? hx)
   have HL := hide hl1
   have HLC := hide hl2
   have HM := hide hm1
   have hnl : nl ≤ 90000 := by rw [← hl1.1]; exact hmm.1
   have hnd : nd ≤ 90000 := by rw [← hm1.1]; exact hmm.2
   have HLM : Hid (mm.length ≤ 90000) := hmm.2
   have HOR : Hid (SrtK (mapP (cleanF c) (s.take k0))) := srt_map (HRT.out.sublist (List.take_sublist _ _))
   have hml : (mapP (cleanF c) (s.take k0)).length ≤ 100000 := by
    have := mapP_len (cleanF c) (s.take k0)
    rw [List.length_take] at this
    omega
   clear hx hl1 hl2 hm1 hm2 hmm
   generalize hg0 : (mapP (cleanF c) (s.take k0)).length = L0 at *
   clear hg0
   go_upto_region 5 with fail
   refine wp_region_held_drew (S := fun W => Below wr.heap.size wr W) (by kernel_rfl) ((Below.refl _ wr).drew) (fun hS0 => ?_)
   refine tkJ 0 14 hS0 ?_; simp only [ly]
   refine tkJ 1 15 hS0 ?_; simp only [ly]
   refine tkJ 2 16 hS0 ?_; simp only [ly]
   refine tkJ 3 17 hS0 ?_; simp only [ly]
   refine tkJ 4 18 hS0 ?_; simp only [ly]
   refine tkL 5 19 hS0 ?h ?_; case h => (intro W hW; have e0 := bcell hW c0; have e1 := bcell hW c1; have e2 := bcell hW c2; clear hW; go_simp; try rfl); simp only [ly]
   refine tkJ 6 20 hS0 ?_; simp only [ly]
   refine tkJ 7 21 hS0 ?_; simp only [ly]
   refine tkJ 8 22 hS0 ?_; simp only [ly]
   refine tkJ 9 23 hS0 ?_; simp only [ly]
   refine tkL 10 24 hS0 ?h ?_; case h => (intro W hW; have e0 := bcell hW c0; have e1 := bcell hW c1; have e2 := bcell hW c2; clear hW; go_simp; try rfl); simp only [ly]
   refine tkJ 11 25 hS0 ?_; simp only [ly]
   refine tkJ 12 26 hS0 ?_; simp only [ly]
   refine tkJ 13 27 hS0 ?_; simp only [ly]
   refine tkJ 14 28 hS0 ?_; simp only [ly]
   refine tkL 15 29 hS0 ?h ?_; case h => (intro W hW; have e0 := bcell hW c0; have e1 := bcell hW c1; have e2 := bcell hW c2; clear hW; go_simp; try rfl); simp only [ly]
   refine tkJ 16 30 hS0 ?_; simp only [ly]
   refine wpAnyH_ready (rs := [17]) (by kernel_rfl) (by simp) ?_
   refine AllReadyH.cons rfl (fun K hK => ?_) AllReadyH.nil
   go_simp
   refine (LeftR_any pd nd cd mm pa na ca c _ (HM.out.below hS0) (HP.out.below (bel_next HB.out hS0)) (by omega)).mono ?_
   rintro e w4 ⟨v4, rfl, ho4, hb⟩
   obtain ⟨p4, c4, rfl, hd4, hc4⟩ := ho4.open
   have D4 := hide hd4
   have C4 := hide hc4
   clear ho4 hd4 hc4
   refine hK.out _ _ ?hs44 (fun hS1 => ?_)
   case hs44 => exact bel_next hS0 hb
   clear hK K hb
   try simp only [ly]
   refine tkJ 18 32 hS1 ?_; simp only [ly]
   refine wpAnyH_ready (rs := [19]) (by kernel_rfl) (by simp) ?_
   refine AllReadyH.cons rfl (fun K hK => ?_) AllReadyH.nil
   go_simp
   refine (PutP_ref p0 L0 cp0 (mapP (cleanF c) (s.take k0)) k pl nl cl ll p4 _ c4 _ _ (HN0.out.below hS1) HOR.out (HL.out.below hS1) HLC.out D4.out C4.out hml (by omega) (by have := HLM.out; have := left_len mm c; omega)).mono ?_
   rintro e w6 ⟨p6, c6, rfl, hn6, hc6, hb⟩
   have HN6 := hide hn6
   have HC6 := hide hc6
   clear hn6 hc6
   refine hK.out _ _ ?hs46 (fun hS2 => ?_)
   case hs46 => exact bel_next hS1 hb
   clear hK K hb
   try simp only [ly]
   refine tkJ 20 5 hS2 ?_; simp only [ly]
   refine wpAnyH_done (by kernel_rfl) ?_ _
   go_wp2
   go_roundw
   case rel => exact ⟨k0 + 1, by omega, by go_num, ⟨p6, c6, by rw [HM2.out]; rfl, (show Hid _ by rw [HM2.out]; exact HN6), (show Hid _ by rw [HM2.out]; exact HC6)⟩, (show Hid _ from bel_next HB.out hS2)⟩
   case measure => simp [RowKit.intOf]; omega
  ·obtain rfl : k0 = n := by omega
   have HE : Hid (s.take k0 = s) := by unfold Hid; rw [← HLEN.out, List.take_length]
   rw [HE.out] at HN0 HC0 ⊢
   go_wp2
   go_ret
   exact ⟨p0, cp0, rfl, HN0.out, HC0.out, HB.out⟩
set_option maxHeartbeats 4000000 in
set_option maxRecDepth 2000 in
theorem Plain9_ref (a : Option Addr) (n cap : Nat) (s : List En) (w : World) (hA : NSS w a n s) (hS : SrtK s) (hn : n ≤ 90000) (hd : ∀ x ∈ s, x.2.1.length ≤ 90000 ∧ x.2.2.length ≤ 90000) : Calls Tryz.prog 97 #[.slice a n cap] w fun e w' => ∃ p cp, e = .returned (.slice p (mapP plainF s).length cp) ∧ NSS w' p (mapP plainF s).length (mapP plainF s) ∧ CP p (mapP plainF s).length cp ∧ Below w.heap.size w w' := by
 have HV := hide hA
 have HLEN := hide hA.len
 have HRT := hide hS
 have HDD := hide hd
 clear hA hS hd
 have HB0 := hide (bel1 w (.cells #[] 125))
 go_enter Tryz.func97, Tryz.ntmps97
 go_wp2
 go_loopw [3, 4] (fun V i wr => ∃ k : Nat, k ≤ n ∧ i = .int .i64 k ∧ (∃ p cp, V = .slice p (mapP plainF (s.take k)).length cp ∧ Hid (NSS wr p (mapP plainF (s.take k)).length (mapP plainF (s.take k))) ∧ Hid (CP p (mapP plainF (s.take k)).length cp)) ∧ Hid (Below w.heap.size w wr)) (fun _ i _ => n - (RowKit.intOf i).toNat)
 case atStart => exact ⟨0, by omega, rfl, ⟨some ⟨w.heap.size, 0, none⟩, 0, rfl, NSS.nil _ _, ⟨Nat.le_refl _, by decide, fun h => by cases h⟩⟩, HB0⟩
 case round =>
  clear HB0
  obtain ⟨k0, hk, rfl, ⟨p0, cp0, rfl, HN0, HC0⟩, HB⟩ := hrel
  by_cases hlt : k0 < n
  ·obtain ⟨b, off, rfl⟩ := HV.out.addr (by omega)
   obtain ⟨k, pl, nl, cl, pd, nd, cd, ll, mm, hx, c0, c1, c2, hl1, hl2, hm1, hm2⟩ := (HV.out.below HB.out).at k0 hlt
   have hk0 : (0 : Int) ≤ (k0 : Int) := by omega
   have hk1 : (k0 : Int) < (n : Int) := by omega
   have HM2 : Hid (mapP plainF (s.take (k0 + 1)) = putP (mapP plainF (s.take k0)) k (plainF (ll, mm))) := map_step HRT.out hx
   have hmm := HDD.out _ (List.mem_of_getElem? hx)
   have HL := hide hl1
   have HLC := hide hl2
   have HM := hide hm1
   have hnl : nl ≤ 90000 := by rw [← hl1.1]; exact hmm.1
   have hnd : nd ≤ 90000 := by rw [← hm1.1]; exact hmm.2
   have HLM : Hid (mm.length ≤ 90000) := hmm.2
   have HOR : Hid (SrtK (mapP plainF (s.take k0))) := srt_map (HRT.out.sublist (List.take_sublist _ _))
   have hml : (mapP plainF (s.take k0)).length ≤ 100000 := by
    have := mapP_len plainF (s.take k0)
    rw [List.length_take] at this
    omega
   clear hx hl1 hl2 hm1 hm2 hmm
   generalize hg0 : (mapP plainF (s.take k0)).length = L0 at *
   clear hg0
   go_upto_region 5 with fail
   refine wp_region_held_drew (S := fun W => Below wr.heap.size wr W) (by kernel_rfl) ((Below.refl _ wr).drew) (fun hS0 => ?_)
   refine tkJ 0 12 hS0 ?_; simp only [ly]
   refine tkJ 1 13 hS0 ?_; simp only [ly]
   refine tkJ 2 14 hS0 ?_; simp only [ly]
   refine tkJ 3 15 hS0 ?_; simp only [ly]
   refine tkJ 4 16 hS0 ?_; simp only [ly]
   refine tkL 5 17 hS0 ?h ?_; case h => (intro W hW; have e0 := bcell hW c0; have e1 := bcell hW c1; have e2 := bcell hW c2; clear hW; go_simp; try rfl); simp only [ly]
   refine tkJ 6 18 hS0 ?_; simp only [ly]
   refine tkJ 7 19 hS0 ?_; simp only [ly]
   refine tkJ 8 20 hS0 ?_; simp only [ly]
   refine tkJ 9 21 hS0 ?_; simp only [ly]
   refine tkL 10 22 hS0 ?h ?_; case h => (intro W hW; have e0 := bcell hW c0; have e1 := bcell hW c1; have e2 := bcell hW c2; clear hW; go_simp; try rfl); simp only [ly]
   refine tkJ 11 23 hS0 ?_; simp only [ly]
   refine wpAnyH_ready (rs := [12]) (by kernel_rfl) (by simp) ?_
   refine AllReadyH.cons rfl (fun K hK => ?_) AllReadyH.nil
   go_simp
   refine (PutP_ref p0 L0 cp0 (mapP plainF (s.take k0)) k pl nl cl ll none 0 0 [] _ (HN0.out.below hS0) HOR.out (HL.out.below hS0) HLC.out (DS.nil _ _) ⟨Nat.le_refl _, by decide, fun _ => rfl⟩ hml (by omega) (by omega)).mono ?_
   rintro e w6 ⟨p6, c6, rfl, hn6, hc6, hb⟩
   have HN6 := hide hn6
   have HC6 := hide hc6
   clear hn6 hc6
   refine hK.out _ _ ?hs60 (fun hS1 => ?_)
   case hs60 => exact bel_next hS0 hb
   clear hK K hb
   try simp only [ly]
   refine tkJ 13 3 hS1 ?_; simp only [ly]
   refine wpAnyH_done (by kernel_rfl) ?_ _
   go_wp2
   go_roundw
   case rel => exact ⟨k0 + 1, by omega, by go_num, ⟨p6, c6, by rw [HM2.out]; rfl, (show Hid _ by rw [HM2.out]; exact HN6), (show Hid _ by rw [HM2.out]; exact HC6)⟩, (show Hid _ from bel_next HB.out hS1)⟩
   case measure => simp [RowKit.intOf]; omega
  ·obtain rfl : k0 = n := by omega
   have HE : Hid (s.take k0 = s) := by unfold Hid; rw [← HLEN.out, List.take_length]
   rw [HE.out] at HN0 HC0 ⊢
   go_wp2
   go_ret
   exact ⟨p0, cp0, rfl, HN0.out, HC0.out, HB.out⟩
end Go.Proofs.YtkbbegbpkndebaaGreat

