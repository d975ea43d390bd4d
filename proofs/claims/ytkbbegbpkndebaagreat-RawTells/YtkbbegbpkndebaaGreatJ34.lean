/- Texts of this claim, joined: B2, B3. -/
import Derived.Test.YtkbbegbpkndebaaGreatJ13
import Derived.Test.YtkbbegbpkndebaaGreatJ7
import Derived.Test.YtkbbegbpkndebaaGreatJ9
/- The document's Left and Get (layer 8). -/
namespace Go.Proofs.YtkbbegbpkndebaaGreat
open Go.RowKit Go.Lib
set_option linter.unusedVariables false
theorem left_yes {l : List Dot} {k : Nat} {d : Dot} {c : List Int} (hx : l[k]? = some d) (h : getZ c d.1 < d.2) : leftD (l.take (k + 1)) c = leftD (l.take k) c ++ [d] := by
 rw [take_snocL hx]
 unfold leftD
 rw [List.filter_append]
 simp [h]
theorem left_no {l : List Dot} {k : Nat} {d : Dot} {c : List Int} (hx : l[k]? = some d) (h : ¬ getZ c d.1 < d.2) : leftD (l.take (k + 1)) c = leftD (l.take k) c := by
 rw [take_snocL hx]
 unfold leftD
 rw [List.filter_append]
 simp [h]
set_option maxHeartbeats 2000000 in
theorem LeftR_any (p : Option Addr) (n cap : Nat) (l : List Dot) (pa : Option Addr) (na ca : Nat) (c : List Int) (w : World) (hA : DS w p n l) (hP : NS w pa na c) (hn : n ≤ 100000) : Calls Tryz.prog 132 #[.slice p n cap, .slice pa na ca] w fun e w' => ∃ v, e = .returned v ∧ OwnD w.heap.size w' v (leftD l c) ∧ Below w.heap.size w w' := by
 have HV := hide hA
 have HP := hide hP
 have HLEN := hide hA.1
 clear hA hP
 have HO0 := hide (OwnD.made w w.heap.size w.heap.size rfl (Nat.le_refl _))
 have HB0 := hide (bel1 w (.cells #[] 33))
 go_enter Tryz.func132, Tryz.ntmps132
 go_wp2
 go_loopw [5, 6] (fun V i wr => ∃ k : Nat, k ≤ n ∧ i = .int .i64 k ∧ Hid (OwnD w.heap.size wr V (leftD (l.take k) c)) ∧ Hid (Below w.heap.size w wr)) (fun _ i _ => n - (intOf i).toNat)
 case atStart => exact ⟨0, by omega, rfl, HO0, HB0⟩
 case round =>
  clear HO0 HB0
  obtain ⟨k, hk, rfl, HO, HB⟩ := hrel
  by_cases hlt : k < n
  ·obtain ⟨b, off, rfl⟩ := HV.out.addr (by omega)
   obtain ⟨r, s, hx, c0, c1⟩ := (HV.out.below HB.out).one k hlt
   have hk0 : (0 : Int) ≤ (k : Int) := by omega
   have hk1 : (k : Int) < (n : Int) := by omega
   go_upto_region 5 with fail
   by_cases hkn : getZ c r < s
   ·have HF2 := hide (left_yes (c := c) hx hkn)
    have HKN := hide hkn
    have HBX : Hid (∀ k, (leftD (l.take k) c).length ≤ n) := fun k => by
     refine Nat.le_trans (List.length_filter_le _ _) ?_
     rw [List.length_take, HLEN.out]
     omega
    clear hx
    refine wp_region_held_drew (S := fun W => Below wr.heap.size wr W) (by kernel_rfl) ((Below.refl _ wr).drew) (fun hS0 => ?_)
    refine tkJ 0 14 hS0 ?_; simp only [ly]
    refine tkJ 1 15 hS0 ?_; simp only [ly]
    refine tkJ 2 16 hS0 ?_; simp only [ly]
    refine tkJ 3 17 hS0 ?_; simp only [ly]
    refine tkL 4 18 hS0 ?h ?_; case h => (intro W hW; have e0 := bcell hW c0; have e1 := bcell hW c1; clear hW; go_simp; try rfl); simp only [ly]
    refine tkJ 5 19 hS0 ?_; simp only [ly]
    refine tkJ 6 20 hS0 ?_; simp only [ly]
    refine tkJ 7 21 hS0 ?_; simp only [ly]
    refine tkJ 8 22 hS0 ?_; simp only [ly]
    refine tkJ 9 23 hS0 ?_; simp only [ly]
    refine tkL 10 24 hS0 ?h ?_; case h => (intro W hW; have e0 := bcell hW c0; have e1 := bcell hW c1; clear hW; go_simp; try rfl); simp only [ly]
    refine wpAnyH_ready (rs := [11]) (by kernel_rfl) (by simp) ?_
    refine AllReadyH.cons rfl (fun K hK => ?_) AllReadyH.nil
    go_simp
    refine (get_refZ pa na ca c r _ (HP.out.below (bel_next HB.out hS0))).mono ?_
    rintro e w' ⟨rfl, hw⟩
    replace hw := hw.symm
    subst hw
    refine hK.out _ _ ?hs12 (fun hS1 => ?_)
    case hs12 => exact hS0
    clear hK K
    try simp only [ly]
    refine tkJ 12 26 hS1 ?_; simp only [ly]
    refine wpAnyH_done (by kernel_rfl) ?_ _
    generalize getZ c r = gz at *
    replace c0 := bcell hS1 c0
    replace c1 := bcell hS1 c1
    replace HO := hide (HO.out.below hS1)
    replace HB := hide (bel_next HB.out hS1)
    clear hS1
    generalize wr.drew = wq at *
    go_wp2_with (at_builtin; refine Stop.at ?_)
    unfold Stop
    have HBq := hide (bel1 wq (.cells #[.int .i64 r, .int .i64 s] 33))
    have HB3 := hide (bel_next HB.out HBq.out)
    refine append_dots rfl _ _ rfl w.heap.size u5 _ [(r, s)] rfl (HO.out.below HBq.out) (some ⟨wq.heap.size, 0, none⟩) 1 1 rfl (fun h => by cases h) (DS.new wq _ rfl [(r, s)] _ (by simp [flatD, encD]) 33 (0, 0) 1 rfl (by decide)) (by have := HBX.out k; rw [List.length_singleton]; omega) HB3.out.size ?_
    intro v3 w3 ho3 hbel3
    have HO3 := hide ho3
    rw [← HF2.out] at HO3
    have HB4 := hide (hbel3 _ HB3.out)
    clear ho3 hbel3 HB3 HBq HO HB
    go_wp2
    go_roundw
    case rel => exact ⟨k + 1, by omega, by go_num, HO3, HB4⟩
    case measure => simp [intOf]; omega
   ·have HF2 := hide (left_no (c := c) hx hkn)
    have HKN := hide hkn
    clear hx
    refine wp_region_held_drew (S := fun W => Below wr.heap.size wr W) (by kernel_rfl) ((Below.refl _ wr).drew) (fun hS0 => ?_)
    refine tkJ 0 14 hS0 ?_; simp only [ly]
    refine tkJ 1 15 hS0 ?_; simp only [ly]
    refine tkJ 2 16 hS0 ?_; simp only [ly]
    refine tkJ 3 17 hS0 ?_; simp only [ly]
    refine tkL 4 18 hS0 ?h ?_; case h => (intro W hW; have e0 := bcell hW c0; have e1 := bcell hW c1; clear hW; go_simp; try rfl); simp only [ly]
    refine tkJ 5 19 hS0 ?_; simp only [ly]
    refine tkJ 6 20 hS0 ?_; simp only [ly]
    refine tkJ 7 21 hS0 ?_; simp only [ly]
    refine tkJ 8 22 hS0 ?_; simp only [ly]
    refine tkJ 9 23 hS0 ?_; simp only [ly]
    refine tkL 10 24 hS0 ?h ?_; case h => (intro W hW; have e0 := bcell hW c0; have e1 := bcell hW c1; clear hW; go_simp; try rfl); simp only [ly]
    refine wpAnyH_ready (rs := [11]) (by kernel_rfl) (by simp) ?_
    refine AllReadyH.cons rfl (fun K hK => ?_) AllReadyH.nil
    go_simp
    refine (get_refZ pa na ca c r _ (HP.out.below (bel_next HB.out hS0))).mono ?_
    rintro e w' ⟨rfl, hw⟩
    replace hw := hw.symm
    subst hw
    refine hK.out _ _ ?hs25 (fun hS1 => ?_)
    case hs25 => exact hS0
    clear hK K
    try simp only [ly]
    refine tkJ 12 26 hS1 ?_; simp only [ly]
    refine wpAnyH_done (by kernel_rfl) ?_ _
    generalize getZ c r = gz at *
    go_wp2
    go_roundw
    case rel => exact ⟨k + 1, by omega, by go_num, (show Hid _ by have := HO.out.below hS1; rwa [← HF2.out] at this), (show Hid _ from bel_next HB.out hS1)⟩
    case measure => simp [intOf]; omega
  ·obtain rfl : k = n := by omega
   have HE : Hid (OwnD w.heap.size wr u5 (leftD l c)) := by have := HO.out; rwa [← HLEN.out, List.take_length] at this
   clear HO
   go_wp2
   go_ret
   exact ⟨_, rfl, HE.out, HB.out⟩
end Go.Proofs.YtkbbegbpkndebaaGreat

/- The document's Put (layer 8). -/
namespace Go.Proofs.YtkbbegbpkndebaaGreat
open Go.RowKit Go.Lib
set_option linter.unusedVariables false
theorem ne_parts {s : List En} (hs : SrtK s) (t : ByteArray) : s.filter (fun x => decide (x.1 ≠ t)) = s.filter (fun x => ltK x.1 t) ++ s.filter (fun x => ltK t x.1) := by
 induction s with
 | nil => rfl
 | cons x r ih =>
  obtain ⟨h1, h2⟩ := List.pairwise_cons.1 hs
  have ih := ih h2
  rcases hb : ltK x.1 t with _ | _
  ·have no : r.filter (fun y => ltK y.1 t) = [] := by
    rw [List.filter_eq_nil_iff]
    intro y hy h
    have := ltK_trans (h1 y hy) h
    rw [hb] at this
    cases this
   rw [no, List.nil_append] at ih
   rcases hc : ltK t x.1 with _ | _
   ·have e := ltK_tri hb hc
    rw [List.filter_cons_of_neg (by simp [e]), List.filter_cons_of_neg (by simp [hb]), List.filter_cons_of_neg (by simp [hc]), no, ih, List.nil_append]
   ·have e : x.1 ≠ t := (ltK_ne hc).symm
    rw [List.filter_cons_of_pos (by simp [e]), List.filter_cons_of_neg (by simp [hb]), List.filter_cons_of_pos (by simp [hc]), no, ih, List.nil_append]
  ·have e : x.1 ≠ t := ltK_ne hb
   have hc := ltK_asym hb
   rw [List.filter_cons_of_pos (by simp [e]), List.filter_cons_of_pos (by simp [hb]), List.filter_cons_of_neg (by simp [hc]), ih, List.cons_append]
end Go.Proofs.YtkbbegbpkndebaaGreat

