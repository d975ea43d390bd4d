/- Texts of this claim, joined: T3. -/
import Derived.Test.YtomppblgalepjaaGreatDoorJ28
/- Which operations there may be: the document's (layer 16). -/
namespace Go.Proofs.YtomppblgalepjaaGreatDoor
open Go.RowKit Go.Lib
set_option linter.unusedVariables false
theorem srt_lt (k : Int) : srt k < 4 := by unfold srt; repeat (first | split | decide)
theorem Sort16b (k : Int) (w : World) : Calls Tryz.prog 21 #[.int .i64 k] w fun e w' => e = .returned (.int .i64 (srt k)) ∧ Below w.heap.size w w' := by
 refine (Sort16 k w).mono ?_
 rintro e w' ⟨rfl, rfl⟩
 exact ⟨rfl, Below.refl _ _⟩
theorem in16b (n many : Int) (w : World) : Calls Tryz.prog 42 #[.int .i64 n, .int .i64 many] w fun e w' => e = .returned (.bool (inR n many)) ∧ Below w.heap.size w w' := by
 refine (in16 n many w).mono ?_
 rintro e w' ⟨rfl, rfl⟩
 exact ⟨rfl, Below.refl _ _⟩
theorem many_cell {w : World} {g : Nat} {a b c : Int} (h : BX w g #[.int .i64 0, .int .i64 a, .int .i64 b, .int .i64 c] 3) {s : Nat} (hs : s < 4) : w.cell? ⟨g, s, none⟩ = some (.int .i64 (manyR a b c s)) := by
 match s, hs with
 | 0, _ => exact h.cell 0 _ rfl
 | 1, _ => exact h.cell 1 _ rfl
 | 2, _ => exact h.cell 2 _ rfl
 | 3, _ => exact h.cell 3 _ rfl
set_option maxRecDepth 2000 in
set_option maxHeartbeats 8000000 in
theorem Oper16 {a1 a2 a3 a4 a5 : Option Addr} {n1 n2 n3 n4 n5 c1 c2 c3 c4 c5 : Nat} (nm : ByteArray) (p : Option Addr) (n c : Nat) (l : List Dg) (w : World) (hA : RS encDg 3 w p n l) (hn : n ≤ 1000) : Calls Tryz.prog 22 #[.agg #[.slice a1 n1 c1, .slice a2 n2 c2, .slice a3 n3 c3, .slice a4 n4 c4, .slice a5 n5 c5], .agg #[.string nm, .slice p n c]] w fun e w' => e = .returned (.bool (opB n1 n2 n3 l)) ∧ Below w.heap.size w w' := by
 have b0 := bel1 w (.cells #[.slice a1 n1 c1, .slice a2 n2 c2, .slice a3 n3 c3, .slice a4 n4 c4, .slice a5 n5 c5] 29)
 have b1 := bel1 (w.alloc (.cells #[.slice a1 n1 c1, .slice a2 n2 c2, .slice a3 n3 c3, .slice a4 n4 c4, .slice a5 n5 c5] 29)) (.cells #[.string nm, .slice p n c] 56)
 have b2 := bel1 ((w.alloc (.cells #[.slice a1 n1 c1, .slice a2 n2 c2, .slice a3 n3 c3, .slice a4 n4 c4, .slice a5 n5 c5] 29)).alloc (.cells #[.string nm, .slice p n c] 56)) (.cells #[.int .i64 0, .int .i64 n1, .int .i64 n2, .int .i64 n3] 3)
 have s1 : (w.alloc (.cells #[.slice a1 n1 c1, .slice a2 n2 c2, .slice a3 n3 c3, .slice a4 n4 c4, .slice a5 n5 c5] 29)).heap.size = w.heap.size + 1 := by first | rfl | simp
 have s2 : ((w.alloc (.cells #[.slice a1 n1 c1, .slice a2 n2 c2, .slice a3 n3 c3, .slice a4 n4 c4, .slice a5 n5 c5] 29)).alloc (.cells #[.string nm, .slice p n c] 56)).heap.size = w.heap.size + 2 := by first | rfl | simp
 have HP : Hid (BX ((w.alloc (.cells #[.slice a1 n1 c1, .slice a2 n2 c2, .slice a3 n3 c3, .slice a4 n4 c4, .slice a5 n5 c5] 29)).alloc (.cells #[.string nm, .slice p n c] 56)) w.heap.size #[.slice a1 n1 c1, .slice a2 n2 c2, .slice a3 n3 c3, .slice a4 n4 c4, .slice a5 n5 c5] 29) := (BX.new w _ rfl _ _).below b1
 have HO : Hid (BX (((w.alloc (.cells #[.slice a1 n1 c1, .slice a2 n2 c2, .slice a3 n3 c3, .slice a4 n4 c4, .slice a5 n5 c5] 29)).alloc (.cells #[.string nm, .slice p n c] 56)).alloc (.cells #[.int .i64 0, .int .i64 n1, .int .i64 n2, .int .i64 n3] 3)) (w.heap.size + 1) #[.string nm, .slice p n c] 56) := (BX.new (w.alloc (.cells #[.slice a1 n1 c1, .slice a2 n2 c2, .slice a3 n3 c3, .slice a4 n4 c4, .slice a5 n5 c5] 29)) _ s1.symm _ _).below b2
 have HM : Hid (BX (((w.alloc (.cells #[.slice a1 n1 c1, .slice a2 n2 c2, .slice a3 n3 c3, .slice a4 n4 c4, .slice a5 n5 c5] 29)).alloc (.cells #[.string nm, .slice p n c] 56)).alloc (.cells #[.int .i64 0, .int .i64 n1, .int .i64 n2, .int .i64 n3] 3)) (w.heap.size + 2) #[.int .i64 0, .int .i64 n1, .int .i64 n2, .int .i64 n3] 3) := BX.new ((w.alloc (.cells #[.slice a1 n1 c1, .slice a2 n2 c2, .slice a3 n3 c3, .slice a4 n4 c4, .slice a5 n5 c5] 29)).alloc (.cells #[.string nm, .slice p n c] 56)) _ s2.symm _ _
 have HA := hide (((hA.below b0).below b1).below b2)
 have HB := hide (bel_next (bel_next b0 b1) b2)
 have hln : l.length = n := hA.1
 clear b0 b1 b2 s1 s2 hA
 go_enter Tryz.func22, Tryz.ntmps22
 go_upto_region 1 with fail
 have p0 := HP.out.cell 0 _ rfl
 have p1 := HP.out.cell 1 _ rfl
 have p2 := HP.out.cell 2 _ rfl
 go_upto_region 2 with fail
 clear p0 p1 p2 HP
 generalize ((w.alloc (.cells #[.slice a1 n1 c1, .slice a2 n2 c2, .slice a3 n3 c3, .slice a4 n4 c4, .slice a5 n5 c5] 29)).alloc (.cells #[.string nm, .slice p n c] 56)).alloc (.cells #[.int .i64 0, .int .i64 n1, .int .i64 n2, .int .i64 n3] 3) = w3 at *
 obtain ⟨go, hgo⟩ : ∃ g, w.heap.size + 1 = g := ⟨_, rfl⟩
 obtain ⟨gm, hgm⟩ : ∃ g, go + 1 = g := ⟨_, rfl⟩
 rw [hgo] at HO
 rw [show w.heap.size + 2 = gm by omega] at HM
 try rw [hgo]
 try rw [hgm]
 clear hgo hgm
 go_wp2
 go_loopw [6, 7, 8, 9] (fun v _ _ _ wr => ∃ i : Nat, i ≤ n ∧ v = .int .i64 i ∧ Hid (allN i (doB n1 n2 n3 l) = true) ∧ Hid (Below w3.heap.size w3 wr)) (fun v _ _ _ _ => n - (RowKit.intOf v).toNat)
 case atStart => exact ⟨0, by omega, rfl, rfl, Below.refl _ _⟩
 case round =>
  obtain ⟨i, hi, rfl, HF, HBr⟩ := hrel
  have o1 := (HO.out.below HBr.out).cell 1 _ rfl
  by_cases hlt : i < n
  ·have hi0 : (0 : Int) ≤ (i : Int) := by omega
   have hi1 : (i : Int) < (n : Int) := by omega
   have hx : l[i]? = some (l[i]'(by omega)) := List.getElem?_eq_getElem (by omega)
   generalize l[i]'(by omega) = x at hx
   have HAr := hide (HA.out.below HBr.out)
   obtain ⟨b, off, rfl, hcc⟩ := rs_cells HAr.out (by omega)
   have c0 := hcc i x hx 0 _ rfl
   have c1 := hcc i x hx 1 _ rfl
   have c2 := hcc i x hx 2 _ rfl
   simp only [Nat.add_zero] at c0
   have HONE : Hid (doB n1 n2 n3 l i = (dgB n1 n2 n3 x && allN i (twoB l x))) := by unfold Hid doB; rw [hx]
   have HFAR : Hid ((dgB n1 n2 n3 x && allN i (twoB l x)) = false → opB n1 n2 n3 l = false) := fun h => by
    unfold opB
    rw [allN_bad (i := i) (by omega) (HONE.out.trans h)]
    rfl
   obtain ⟨x0, x1, x2⟩ := x
   simp only at c0 c1 c2
   clear hcc
   go_upto_region 6 with fail
   have HD : Hid (BX (wr.alloc (.cells #[.int .i64 x0, .int .i64 x1, .int .i64 x2] 60)) wr.heap.size #[.int .i64 x0, .int .i64 x1, .int .i64 x2] 60) := BX.new wr _ rfl _ _
   have HB4 := hide (bel1 wr (.cells #[.int .i64 x0, .int .i64 x1, .int .i64 x2] 60))
   have HA4 := hide (HAr.out.below HB4.out)
   have HO4 := hide ((HO.out.below HBr.out).below HB4.out)
   have HM4 := hide ((HM.out.below HBr.out).below HB4.out)
   obtain ⟨gd, hgd⟩ : ∃ g, wr.heap.size = g := ⟨_, rfl⟩
   rw [hgd] at HD ⊢
   clear hgd c0 c1 c2 o1 HAr
   generalize wr.alloc (.cells #[.int .i64 x0, .int .i64 x1, .int .i64 x2] 60) = w4 at *
   have e0 := HD.out.cell 0 _ rfl
   go_upto_region 7 with (go_at_call 21; refine (Sort16 _ _).mono ?_; rintro e wz ⟨rfl, hw9⟩; have hw8 := hw9.symm; subst hw8; clear hw9)
   have e1 := HD.out.cell 1 _ rfl
   have e2 := HD.out.cell 2 _ rfl
   have hs4 := srt_lt x0
   have hdgv : dgB n1 n2 n3 (x0, x1, x2) = (inR x1 (manyR n1 n2 n3 (srt x0)) && (if srt x0 = 2 then decide (1 ≤ x2) && decide (x2 ≤ 1000) else decide (x2 = 0))) := rfl
   obtain ⟨s, hsx⟩ : ∃ s, srt x0 = s := ⟨_, rfl⟩
   rw [hsx] at hs4 hdgv ⊢
   have m0 := many_cell HM4.out hs4
   have s0 : (0 : Int) ≤ (s : Int) := by omega
   have s1 : (s : Int) < 4 := by omega
   clear e0 hx
   rcases hin : inR x1 (manyR n1 n2 n3 s) with _ | _
   ·have HIN := hide hin
    have HK : Hid (opB n1 n2 n3 l = false) := HFAR.out (by rw [hdgv, hin]; rfl)
    clear hin hdgv hsx
    refine wp_region_held_drew (S := fun W => Below w4.heap.size w4 W) (by kernel_rfl) ((Below.refl _ w4).drew) (fun hS0 => ?_)
    refine tkJ 0 35 hS0 ?_; simp only [ly]
    refine tkI 1 36 ?v2 rfl rfl hS0 ?hy2 ?_
    case hy2 => (intro W hW; have e0 := bcell hW e1; have e1 := bcell hW e2; have e2 := bcell hW m0; clear hW; go_simp; try rfl)
    simp only [ly]
    refine tkJ 2 37 hS0 ?_; simp only [ly]
    refine tkJ 3 38 hS0 ?_; simp only [ly]
    refine tkJ 4 39 hS0 ?_; simp only [ly]
    refine tkI 5 40 ?v6 rfl rfl hS0 ?hy6 ?_
    case hy6 => (intro W hW; have e0 := bcell hW e1; have e1 := bcell hW e2; have e2 := bcell hW m0; clear hW; go_simp; try rfl)
    simp only [ly]
    refine wpAnyH_ready (rs := [6]) (by kernel_rfl) (by simp) ?_
    refine AllReadyH.cons rfl (fun K hK => ?_) AllReadyH.nil
    go_simp
    refine (in16b _ _ _).mono ?_
    rintro e wz ⟨rfl, hb⟩
    rw [HIN.out]
    refine hK.out _ _ ?hs7 (fun hS1 => ?_)
    case hs7 => exact bel_next hS0 hb
    clear hK K hb
    try simp only [ly]
    refine tkJ 7 42 hS1 ?_; simp only [ly]
    refine tkJ 8 43 hS1 ?_; simp only [ly]
    refine tkM 9 44 hS1 ?_; simp only [ly]
    refine tkM 10 45 hS1 ?_; simp only [ly]
    refine tkM 11 46 hS1 ?_; simp only [ly]
    refine tkM 12 47 hS1 ?_; simp only [ly]
    refine tkM 13 48 hS1 ?_; simp only [ly]
    refine tkM 14 49 hS1 ?_; simp only [ly]
    refine tkM 15 50 hS1 ?_; simp only [ly]
    refine tkM 16 51 hS1 ?_; simp only [ly]
    refine tkM 17 52 hS1 ?_; simp only [ly]
    refine tkM 18 53 hS1 ?_; simp only [ly]
    refine tkM 19 54 hS1 ?_; simp only [ly]
    refine tkM 20 55 hS1 ?_; simp only [ly]
    refine tkJ 21 56 hS1 ?_; simp only [ly]
    refine tkJ 22 57 hS1 ?_; simp only [ly]
    refine tkM 23 58 hS1 ?_; simp only [ly]
    refine tkM 24 59 hS1 ?_; simp only [ly]
    refine tkM 25 60 hS1 ?_; simp only [ly]
    refine tkM 26 61 hS1 ?_; simp only [ly]
    refine tkM 27 62 hS1 ?_; simp only [ly]
    refine tkM 28 63 hS1 ?_; simp only [ly]
    refine tkM 29 64 hS1 ?_; simp only [ly]
    refine tkJ 30 65 hS1 ?_; simp only [ly]
    refine wpAnyH_done (by kernel_rfl) ?_ _
    go_wp2
    go_ret
    exact ⟨by rw [HK.out]; rfl, bel_next HB.out (bel_next HBr.out (bel_next HB4.out hS1))⟩
   ·have HIN := hide hin
    rw [hin] at hdgv
    clear hin
    by_cases hs2 : s = 2
    ·rw [if_pos hs2] at hdgv
     have hsb : ((s : Int) == 2) = true := by rw [hs2]; rfl
     have hsn : ((s : Int) != 2) = false := by rw [hs2]; rfl
     clear hs2
     by_cases h1 : x2 < 1
     ·have HK : Hid (opB n1 n2 n3 l = false) := HFAR.out (by rw [hdgv, decide_eq_false (show ¬ 1 ≤ x2 by omega)]; rfl)
      clear hdgv
      refine wp_region_held_drew (S := fun W => Below w4.heap.size w4 W) (by kernel_rfl) ((Below.refl _ w4).drew) (fun hS0 => ?_)
      refine tkJ 0 35 hS0 ?_; simp only [ly]
      refine tkI 1 36 ?v14 rfl rfl hS0 ?hy14 ?_
      case hy14 => (intro W hW; have e0 := bcell hW e1; have e1 := bcell hW e2; have e2 := bcell hW m0; clear hW; go_simp; try rfl)
      simp only [ly]
      refine tkJ 2 37 hS0 ?_; simp only [ly]
      refine tkJ 3 38 hS0 ?_; simp only [ly]
      refine tkJ 4 39 hS0 ?_; simp only [ly]
      refine tkI 5 40 ?v18 rfl rfl hS0 ?hy18 ?_
      case hy18 => (intro W hW; have e0 := bcell hW e1; have e1 := bcell hW e2; have e2 := bcell hW m0; clear hW; go_simp; try rfl)
      simp only [ly]
      refine wpAnyH_ready (rs := [6]) (by kernel_rfl) (by simp) ?_
      refine AllReadyH.cons rfl (fun K hK => ?_) AllReadyH.nil
      go_simp
      refine (in16b _ _ _).mono ?_
      rintro e wz ⟨rfl, hb⟩
      rw [HIN.out]
      refine hK.out _ _ ?hs19 (fun hS1 => ?_)
      case hs19 => exact bel_next hS0 hb
      clear hK K hb
      try simp only [ly]
      refine tkJ 7 42 hS1 ?_; simp only [ly]
      refine tkJ 8 43 hS1 ?_; simp only [ly]
      refine tkJ 9 44 hS1 ?_; simp only [ly]
      refine tkJ 10 45 hS1 ?_; simp only [ly]
      refine tkJ 11 46 hS1 ?_; simp only [ly]
      refine tkJ 12 47 hS1 ?_; simp only [ly]
      refine tkI 13 48 ?v26 rfl rfl hS1 ?hy26 ?_
      case hy26 => (intro W hW; have e0 := bcell hW e1; have e1 := bcell hW e2; have e2 := bcell hW m0; clear hW; go_simp; try rfl)
      simp only [ly]
      refine tkJ 14 49 hS1 ?_; simp only [ly]
      refine tkJ 15 50 hS1 ?_; simp only [ly]
      refine tkM 16 51 hS1 ?_; simp only [ly]
      refine tkM 17 52 hS1 ?_; simp only [ly]
      refine tkM 18 53 hS1 ?_; simp only [ly]
      refine tkJ 19 54 hS1 ?_; simp only [ly]
      refine tkJ 20 55 hS1 ?_; simp only [ly]
      refine tkJ 21 56 hS1 ?_; simp only [ly]
      refine tkJ 22 57 hS1 ?_; simp only [ly]
      refine tkM 23 58 hS1 ?_; simp only [ly]
      refine tkM 24 59 hS1 ?_; simp only [ly]
      refine tkM 25 60 hS1 ?_; simp only [ly]
      refine tkM 26 61 hS1 ?_; simp only [ly]
      refine tkM 27 62 hS1 ?_; simp only [ly]
      refine tkM 28 63 hS1 ?_; simp only [ly]
      refine tkM 29 64 hS1 ?_; simp only [ly]
      refine tkJ 30 65 hS1 ?_; simp only [ly]
      refine wpAnyH_done (by kernel_rfl) ?_ _
      go_wp2
      go_ret
      exact ⟨by rw [HK.out]; rfl, bel_next HB.out (bel_next HBr.out (bel_next HB4.out hS1))⟩
     ·by_cases h2 : 1000 < x2
      ·have HK : Hid (opB n1 n2 n3 l = false) := HFAR.out (by rw [hdgv, decide_eq_false (show ¬ x2 ≤ 1000 by omega)]; simp)
       clear hdgv
       refine wp_region_held_drew (S := fun W => Below w4.heap.size w4 W) (by kernel_rfl) ((Below.refl _ w4).drew) (fun hS0 => ?_)
       refine tkJ 0 35 hS0 ?_; simp only [ly]
       refine tkI 1 36 ?v35 rfl rfl hS0 ?hy35 ?_
       case hy35 => (intro W hW; have e0 := bcell hW e1; have e1 := bcell hW e2; have e2 := bcell hW m0; clear hW; go_simp; try rfl)
       simp only [ly]
       refine tkJ 2 37 hS0 ?_; simp only [ly]
       refine tkJ 3 38 hS0 ?_; simp only [ly]
       refine tkJ 4 39 hS0 ?_; simp only [ly]
       refine tkI 5 40 ?v39 rfl rfl hS0 ?hy39 ?_
       case hy39 => (intro W hW; have e0 := bcell hW e1; have e1 := bcell hW e2; have e2 := bcell hW m0; clear hW; go_simp; try rfl)
       simp only [ly]
       refine wpAnyH_ready (rs := [6]) (by kernel_rfl) (by simp) ?_
       refine AllReadyH.cons rfl (fun K hK => ?_) AllReadyH.nil
       go_simp
       refine (in16b _ _ _).mono ?_
       rintro e wz ⟨rfl, hb⟩
       rw [HIN.out]
       refine hK.out _ _ ?hs40 (fun hS1 => ?_)
       case hs40 => exact bel_next hS0 hb
       clear hK K hb
       try simp only [ly]
       refine tkJ 7 42 hS1 ?_; simp only [ly]
       refine tkJ 8 43 hS1 ?_; simp only [ly]
       refine tkJ 9 44 hS1 ?_; simp only [ly]
       refine tkJ 10 45 hS1 ?_; simp only [ly]
       refine tkJ 11 46 hS1 ?_; simp only [ly]
       refine tkJ 12 47 hS1 ?_; simp only [ly]
       refine tkI 13 48 ?v47 rfl rfl hS1 ?hy47 ?_
       case hy47 => (intro W hW; have e0 := bcell hW e1; have e1 := bcell hW e2; have e2 := bcell hW m0; clear hW; go_simp; try rfl)
       simp only [ly]
       refine tkJ 14 49 hS1 ?_; simp only [ly]
       refine tkJ 15 50 hS1 ?_; simp only [ly]
       refine tkJ 16 51 hS1 ?_; simp only [ly]
       refine tkI 17 52 ?v51 rfl rfl hS1 ?hy51 ?_
       case hy51 => (intro W hW; have e0 := bcell hW e1; have e1 := bcell hW e2; have e2 := bcell hW m0; clear hW; go_simp; try rfl)
       simp only [ly]
       refine tkJ 18 53 hS1 ?_; simp only [ly]
       refine tkJ 19 54 hS1 ?_; simp only [ly]
       refine tkJ 20 55 hS1 ?_; simp only [ly]
       refine tkJ 21 56 hS1 ?_; simp only [ly]
       refine tkJ 22 57 hS1 ?_; simp only [ly]
       refine tkM 23 58 hS1 ?_; simp only [ly]
       refine tkM 24 59 hS1 ?_; simp only [ly]
       refine tkM 25 60 hS1 ?_; simp only [ly]
       refine tkM 26 61 hS1 ?_; simp only [ly]
       refine tkM 27 62 hS1 ?_; simp only [ly]
       refine tkM 28 63 hS1 ?_; simp only [ly]
       refine tkM 29 64 hS1 ?_; simp only [ly]
       refine tkJ 30 65 hS1 ?_; simp only [ly]
       refine wpAnyH_done (by kernel_rfl) ?_ _
       go_wp2
       go_ret
       exact ⟨by rw [HK.out]; rfl, bel_next HB.out (bel_next HBr.out (bel_next HB4.out hS1))⟩
      ·have HDG : Hid (dgB n1 n2 n3 (x0, x1, x2) = true) := hdgv.trans (by rw [decide_eq_true (show 1 ≤ x2 by omega), decide_eq_true (show x2 ≤ 1000 by omega)]; rfl)
       clear hdgv
       refine wp_region_held_drew (S := fun W => Below w4.heap.size w4 W) (by kernel_rfl) ((Below.refl _ w4).drew) (fun hS0 => ?_)
       refine tkJ 0 35 hS0 ?_; simp only [ly]
       refine tkI 1 36 ?v59 rfl rfl hS0 ?hy59 ?_
       case hy59 => (intro W hW; have e0 := bcell hW e1; have e1 := bcell hW e2; have e2 := bcell hW m0; clear hW; go_simp; try rfl)
       simp only [ly]
       refine tkJ 2 37 hS0 ?_; simp only [ly]
       refine tkJ 3 38 hS0 ?_; simp only [ly]
       refine tkJ 4 39 hS0 ?_; simp only [ly]
       refine tkI 5 40 ?v63 rfl rfl hS0 ?hy63 ?_
       case hy63 => (intro W hW; have e0 := bcell hW e1; have e1 := bcell hW e2; have e2 := bcell hW m0; clear hW; go_simp; try rfl)
       simp only [ly]
       refine wpAnyH_ready (rs := [6]) (by kernel_rfl) (by simp) ?_
       refine AllReadyH.cons rfl (fun K hK => ?_) AllReadyH.nil
       go_simp
       refine (in16b _ _ _).mono ?_
       rintro e wz ⟨rfl, hb⟩
       rw [HIN.out]
       refine hK.out _ _ ?hs64 (fun hS1 => ?_)
       case hs64 => exact bel_next hS0 hb
       clear hK K hb
       try simp only [ly]
       refine tkJ 7 42 hS1 ?_; simp only [ly]
       refine tkJ 8 43 hS1 ?_; simp only [ly]
       refine tkJ 9 44 hS1 ?_; simp only [ly]
       refine tkJ 10 45 hS1 ?_; simp only [ly]
       refine tkJ 11 46 hS1 ?_; simp only [ly]
       refine tkJ 12 47 hS1 ?_; simp only [ly]
       refine tkI 13 48 ?v71 rfl rfl hS1 ?hy71 ?_
       case hy71 => (intro W hW; have e0 := bcell hW e1; have e1 := bcell hW e2; have e2 := bcell hW m0; clear hW; go_simp; try rfl)
       simp only [ly]
       refine tkJ 14 49 hS1 ?_; simp only [ly]
       refine tkJ 15 50 hS1 ?_; simp only [ly]
       refine tkJ 16 51 hS1 ?_; simp only [ly]
       refine tkI 17 52 ?v75 rfl rfl hS1 ?hy75 ?_
       case hy75 => (intro W hW; have e0 := bcell hW e1; have e1 := bcell hW e2; have e2 := bcell hW m0; clear hW; go_simp; try rfl)
       simp only [ly]
       refine tkJ 18 53 hS1 ?_; simp only [ly]
       refine tkJ 19 54 hS1 ?_; simp only [ly]
       refine tkJ 20 55 hS1 ?_; simp only [ly]
       refine tkJ 21 56 hS1 ?_; simp only [ly]
       refine tkJ 22 57 hS1 ?_; simp only [ly]
       refine tkJ 23 58 hS1 ?_; simp only [ly]
       refine tkJ 24 59 hS1 ?_; simp only [ly]
       refine tkJ 25 60 hS1 ?_; simp only [ly]
       refine tkM 26 61 hS1 ?_; simp only [ly]
       refine tkM 27 62 hS1 ?_; simp only [ly]
       refine tkM 28 63 hS1 ?_; simp only [ly]
       refine tkJ 29 64 hS1 ?_; simp only [ly]
       refine tkJ 30 65 hS1 ?_; simp only [ly]
       refine wpAnyH_done (by kernel_rfl) ?_ _
       have HB5 := hide (bel_next HB4.out hS1)
       have HA5 := hide (HA4.out.below hS1)
       have HO5 := hide (HO4.out.below hS1)
       have HD5 := hide (HD.out.below hS1)
       go_wp2
       go_loopw [9] (fun v wr => ∃ k : Nat, k ≤ i ∧ v = .int .i64 k ∧ Hid (allN k (twoB l (x0, x1, x2)) = true) ∧ Hid (Below wz.heap.size wz wr)) (fun v _ => i - (RowKit.intOf v).toNat)
       case atStart => exact ⟨0, by omega, rfl, rfl, Below.refl _ _⟩
       case round =>
        obtain ⟨k, hk, rfl, HT, HBk⟩ := hrel
        by_cases hkt : k < i
        ·have hk0 : (0 : Int) ≤ (k : Int) := by omega
         have hk1 : (k : Int) < (i : Int) := by omega
         have hk2 : (k : Int) < (n : Int) := by omega
         have hy : l[k]? = some (l[k]'(by omega)) := List.getElem?_eq_getElem (by omega)
         generalize l[k]'(by omega) = y at hy
         obtain ⟨y0, y1, y2⟩ := y
         have HAk := hide ((HA5.out).below HBk.out)
         obtain ⟨b9, off9, hpe, hcc⟩ := rs_cells HAk.out (by omega)
         cases hpe
         have o1 := (HO5.out.below HBk.out).cell 1 _ rfl
         have g1 := (HD5.out.below HBk.out).cell 1 _ rfl
         have f0 := hcc k _ hy 0 _ rfl
         have f1 := hcc k _ hy 1 _ rfl
         simp only [Nat.add_zero] at f0 f1
         have hstep : allN (k + 1) (twoB l (x0, x1, x2)) = !(decide (srt y0 = srt x0) && decide (y1 = x1)) := by
          rw [allN_succ, HT.out]
          unfold twoB
          rw [hy]
          rfl
         have hfar : (decide (srt y0 = srt x0) && decide (y1 = x1)) = true → opB n1 n2 n3 l = false := fun h => by
          refine HFAR.out ?_
          rw [Bool.and_eq_false_iff]
          right
          refine allN_bad (i := k) hkt ?_
          unfold twoB
          rw [hy]
          simp only
          rw [h]
          rfl
         clear hcc hy HT
         rw [hsx] at hstep hfar
         by_cases e3 : srt y0 = s
         ·have e3b : ((srt y0 : Int) == (s : Int)) = true := by rw [e3]; simp
          by_cases e4 : y1 = x1
          ·have HK : Hid (opB n1 n2 n3 l = false) := hfar (by rw [decide_eq_true e3, decide_eq_true e4]; rfl)
           subst e4
           clear hstep hfar e3
           go_upto_region 12 with fail
           refine wp_region_held_drew (S := fun W => Below wr.heap.size wr W) (by kernel_rfl) ((Below.refl _ wr).drew) (fun hS0 => ?_)
           refine tkJ 0 71 hS0 ?_; simp only [ly]
           refine tkI 1 72 ?v87 rfl rfl hS0 ?hy87 ?_
           case hy87 => (intro W hW; have e0 := bcell hW o1; have e1 := bcell hW f0; have e2 := bcell hW f1; have e3 := bcell hW g1; clear hW; go_simp; try rfl)
           simp only [ly]
           refine tkJ 2 73 hS0 ?_; simp only [ly]
           refine tkJ 3 74 hS0 ?_; simp only [ly]
           refine tkJ 4 75 hS0 ?_; simp only [ly]
           refine tkI 5 76 ?v91 rfl rfl hS0 ?hy91 ?_
           case hy91 => (intro W hW; have e0 := bcell hW o1; have e1 := bcell hW f0; have e2 := bcell hW f1; have e3 := bcell hW g1; clear hW; go_simp; try rfl)
           simp only [ly]
           refine tkJ 7 78 hS0 ?_; simp only [ly]
           refine wpAnyH_ready (rs := [6]) (by kernel_rfl) (by simp) ?_
           refine AllReadyH.cons rfl (fun K hK => ?_) AllReadyH.nil
           go_simp
           refine (Sort16b _ _).mono ?_
           rintro e wz ⟨rfl, hb⟩
           refine hK.out _ _ ?hs93 (fun hS1 => ?_)
           case hs93 => exact bel_next hS0 hb
           clear hK K hb
           try simp only [ly]
           refine tkJ 8 79 hS1 ?_; simp only [ly]
           refine tkJ 9 80 hS1 ?_; simp only [ly]
           refine tkJ 10 81 hS1 ?_; simp only [ly]
           refine tkI 11 82 ?v97 rfl rfl hS1 ?hy97 ?_
           case hy97 => (intro W hW; have e0 := bcell hW o1; have e1 := bcell hW f0; have e2 := bcell hW f1; have e3 := bcell hW g1; clear hW; go_simp; try rfl)
           simp only [ly]
           refine tkJ 12 83 hS1 ?_; simp only [ly]
           refine tkJ 13 84 hS1 ?_; simp only [ly]
           refine tkJ 14 85 hS1 ?_; simp only [ly]
           refine tkI 15 86 ?v101 rfl rfl hS1 ?hy101 ?_
           case hy101 => (intro W hW; have e0 := bcell hW o1; have e1 := bcell hW f0; have e2 := bcell hW f1; have e3 := bcell hW g1; clear hW; go_simp; try rfl)
           simp only [ly]
           refine tkJ 16 87 hS1 ?_; simp only [ly]
           refine tkI 17 88 ?v103 rfl rfl hS1 ?hy103 ?_
           case hy103 => (intro W hW; have e0 := bcell hW o1; have e1 := bcell hW f0; have e2 := bcell hW f1; have e3 := bcell hW g1; clear hW; go_simp; try rfl)
           simp only [ly]
           refine tkJ 18 89 hS1 ?_; simp only [ly]
           refine tkJ 19 90 hS1 ?_; simp only [ly]
           refine wpAnyH_done (by kernel_rfl) ?_ _
           go_wp2
           go_ret
           exact ⟨by rw [HK.out]; rfl, bel_next HB.out (bel_next HBr.out (bel_next HB5.out (bel_next HBk.out hS1)))⟩
          ·have HF2 : Hid (allN (k + 1) (twoB l (x0, x1, x2)) = true) := hstep.trans (by rw [decide_eq_false e4]; simp)
           have e4b : (y1 == x1) = false := by simpa using e4
           clear hstep hfar e3 e4
           go_upto_region 12 with fail
           refine wp_region_held_drew (S := fun W => Below wr.heap.size wr W) (by kernel_rfl) ((Below.refl _ wr).drew) (fun hS0 => ?_)
           refine tkJ 0 71 hS0 ?_; simp only [ly]
           refine tkI 1 72 ?v107 rfl rfl hS0 ?hy107 ?_
           case hy107 => (intro W hW; have e0 := bcell hW o1; have e1 := bcell hW f0; have e2 := bcell hW f1; have e3 := bcell hW g1; clear hW; go_simp; try rfl)
           simp only [ly]
           refine tkJ 2 73 hS0 ?_; simp only [ly]
           refine tkJ 3 74 hS0 ?_; simp only [ly]
           refine tkJ 4 75 hS0 ?_; simp only [ly]
           refine tkI 5 76 ?v111 rfl rfl hS0 ?hy111 ?_
           case hy111 => (intro W hW; have e0 := bcell hW o1; have e1 := bcell hW f0; have e2 := bcell hW f1; have e3 := bcell hW g1; clear hW; go_simp; try rfl)
           simp only [ly]
           refine tkJ 7 78 hS0 ?_; simp only [ly]
           refine wpAnyH_ready (rs := [6]) (by kernel_rfl) (by simp) ?_
           refine AllReadyH.cons rfl (fun K hK => ?_) AllReadyH.nil
           go_simp
           refine (Sort16b _ _).mono ?_
           rintro e wz ⟨rfl, hb⟩
           refine hK.out _ _ ?hs113 (fun hS1 => ?_)
           case hs113 => exact bel_next hS0 hb
           clear hK K hb
           try simp only [ly]
           refine tkJ 8 79 hS1 ?_; simp only [ly]
           refine tkJ 9 80 hS1 ?_; simp only [ly]
           refine tkJ 10 81 hS1 ?_; simp only [ly]
           refine tkI 11 82 ?v117 rfl rfl hS1 ?hy117 ?_
           case hy117 => (intro W hW; have e0 := bcell hW o1; have e1 := bcell hW f0; have e2 := bcell hW f1; have e3 := bcell hW g1; clear hW; go_simp; try rfl)
           simp only [ly]
           refine tkJ 12 83 hS1 ?_; simp only [ly]
           refine tkJ 13 84 hS1 ?_; simp only [ly]
           refine tkJ 14 85 hS1 ?_; simp only [ly]
           refine tkI 15 86 ?v121 rfl rfl hS1 ?hy121 ?_
           case hy121 => (intro W hW; have e0 := bcell hW o1; have e1 := bcell hW f0; have e2 := bcell hW f1; have e3 := bcell hW g1; clear hW; go_simp; try rfl)
           simp only [ly]
           refine tkJ 16 87 hS1 ?_; simp only [ly]
           refine tkI 17 88 ?v123 rfl rfl hS1 ?hy123 ?_
           case hy123 => (intro W hW; have e0 := bcell hW o1; have e1 := bcell hW f0; have e2 := bcell hW f1; have e3 := bcell hW g1; clear hW; go_simp; try rfl)
           simp only [ly]
           refine tkJ 18 89 hS1 ?_; simp only [ly]
           refine tkJ 19 90 hS1 ?_; simp only [ly]
           refine wpAnyH_done (by kernel_rfl) ?_ _
           go_wp2
           go_roundw
           case rel => exact ⟨k + 1, by omega, by go_num, HF2, hide (bel_next HBk.out hS1)⟩
           case measure => simp [RowKit.intOf] <;> omega
         ·have HF2 : Hid (allN (k + 1) (twoB l (x0, x1, x2)) = true) := hstep.trans (by rw [decide_eq_false e3]; simp)
          have e3b : ((srt y0 : Int) == (s : Int)) = false := by simp; omega
          clear hstep hfar e3
          go_upto_region 12 with fail
          refine wp_region_held_drew (S := fun W => Below wr.heap.size wr W) (by kernel_rfl) ((Below.refl _ wr).drew) (fun hS0 => ?_)
          refine tkJ 0 71 hS0 ?_; simp only [ly]
          refine tkI 1 72 ?v127 rfl rfl hS0 ?hy127 ?_
          case hy127 => (intro W hW; have e0 := bcell hW o1; have e1 := bcell hW f0; have e2 := bcell hW f1; have e3 := bcell hW g1; clear hW; go_simp; try rfl)
          simp only [ly]
          refine tkJ 2 73 hS0 ?_; simp only [ly]
          refine tkJ 3 74 hS0 ?_; simp only [ly]
          refine tkJ 4 75 hS0 ?_; simp only [ly]
          refine tkI 5 76 ?v131 rfl rfl hS0 ?hy131 ?_
          case hy131 => (intro W hW; have e0 := bcell hW o1; have e1 := bcell hW f0; have e2 := bcell hW f1; have e3 := bcell hW g1; clear hW; go_simp; try rfl)
          simp only [ly]
          refine tkJ 7 78 hS0 ?_; simp only [ly]
          refine wpAnyH_ready (rs := [6]) (by kernel_rfl) (by simp) ?_
          refine AllReadyH.cons rfl (fun K hK => ?_) AllReadyH.nil
          go_simp
          refine (Sort16b _ _).mono ?_
          rintro e wz ⟨rfl, hb⟩
          refine hK.out _ _ ?hs133 (fun hS1 => ?_)
          case hs133 => exact bel_next hS0 hb
          clear hK K hb
          try simp only [ly]
          refine tkJ 8 79 hS1 ?_; simp only [ly]
          refine tkJ 9 80 hS1 ?_; simp only [ly]
          refine tkM 10 81 hS1 ?_; simp only [ly]
          refine tkM 11 82 hS1 ?_; simp only [ly]
          refine tkM 12 83 hS1 ?_; simp only [ly]
          refine tkM 13 84 hS1 ?_; simp only [ly]
          refine tkM 14 85 hS1 ?_; simp only [ly]
          refine tkM 15 86 hS1 ?_; simp only [ly]
          refine tkM 16 87 hS1 ?_; simp only [ly]
          refine tkM 17 88 hS1 ?_; simp only [ly]
          refine tkM 18 89 hS1 ?_; simp only [ly]
          refine tkJ 19 90 hS1 ?_; simp only [ly]
          refine wpAnyH_done (by kernel_rfl) ?_ _
          go_wp2
          go_roundw
          case rel => exact ⟨k + 1, by omega, by go_num, HF2, hide (bel_next HBk.out hS1)⟩
          case measure => simp [RowKit.intOf] <;> omega
        ·obtain rfl : k = i := by omega
         have HF2 : Hid (allN (k + 1) (doB n1 n2 n3 l) = true) := by
          unfold Hid
          rw [allN_succ, HF.out, HONE.out, HDG.out, HT.out]
          rfl
         clear HT
         go_wp2
         go_roundw
         case rel => exact ⟨k + 1, by omega, by go_num, HF2, hide (bel_next HBr.out (bel_next HB5.out HBk.out))⟩
         case measure => simp [RowKit.intOf] <;> omega
    ·rw [if_neg hs2] at hdgv
     have hsb : ((s : Int) == 2) = false := by simp; omega
     have hsn : ((s : Int) != 2) = true := by simp; omega
     by_cases h1 : x2 = 0
     ·have HDG : Hid (dgB n1 n2 n3 (x0, x1, x2) = true) := hdgv.trans (by rw [decide_eq_true h1]; rfl)
      have h1b : (x2 != 0) = false := by simpa using h1
      clear hdgv hs2 h1
      refine wp_region_held_drew (S := fun W => Below w4.heap.size w4 W) (by kernel_rfl) ((Below.refl _ w4).drew) (fun hS0 => ?_)
      refine tkJ 0 35 hS0 ?_; simp only [ly]
      refine tkI 1 36 ?v138 rfl rfl hS0 ?hy138 ?_
      case hy138 => (intro W hW; have e0 := bcell hW e1; have e1 := bcell hW e2; have e2 := bcell hW m0; clear hW; go_simp; try rfl)
      simp only [ly]
      refine tkJ 2 37 hS0 ?_; simp only [ly]
      refine tkJ 3 38 hS0 ?_; simp only [ly]
      refine tkJ 4 39 hS0 ?_; simp only [ly]
      refine tkI 5 40 ?v142 rfl rfl hS0 ?hy142 ?_
      case hy142 => (intro W hW; have e0 := bcell hW e1; have e1 := bcell hW e2; have e2 := bcell hW m0; clear hW; go_simp; try rfl)
      simp only [ly]
      refine wpAnyH_ready (rs := [6]) (by kernel_rfl) (by simp) ?_
      refine AllReadyH.cons rfl (fun K hK => ?_) AllReadyH.nil
      go_simp
      refine (in16b _ _ _).mono ?_
      rintro e wz ⟨rfl, hb⟩
      rw [HIN.out]
      refine hK.out _ _ ?hs143 (fun hS1 => ?_)
      case hs143 => exact bel_next hS0 hb
      clear hK K hb
      try simp only [ly]
      refine tkJ 7 42 hS1 ?_; simp only [ly]
      refine tkJ 8 43 hS1 ?_; simp only [ly]
      refine tkJ 9 44 hS1 ?_; simp only [ly]
      refine tkJ 10 45 hS1 ?_; simp only [ly]
      refine tkJ 11 46 hS1 ?_; simp only [ly]
      refine tkM 12 47 hS1 ?_; simp only [ly]
      refine tkM 13 48 hS1 ?_; simp only [ly]
      refine tkM 14 49 hS1 ?_; simp only [ly]
      refine tkM 15 50 hS1 ?_; simp only [ly]
      refine tkM 16 51 hS1 ?_; simp only [ly]
      refine tkM 17 52 hS1 ?_; simp only [ly]
      refine tkM 18 53 hS1 ?_; simp only [ly]
      refine tkM 19 54 hS1 ?_; simp only [ly]
      refine tkJ 20 55 hS1 ?_; simp only [ly]
      refine tkJ 21 56 hS1 ?_; simp only [ly]
      refine tkJ 22 57 hS1 ?_; simp only [ly]
      refine tkJ 23 58 hS1 ?_; simp only [ly]
      refine tkJ 24 59 hS1 ?_; simp only [ly]
      refine tkJ 25 60 hS1 ?_; simp only [ly]
      refine tkJ 26 61 hS1 ?_; simp only [ly]
      refine tkI 27 62 ?v156 rfl rfl hS1 ?hy156 ?_
      case hy156 => (intro W hW; have e0 := bcell hW e1; have e1 := bcell hW e2; have e2 := bcell hW m0; clear hW; go_simp; try rfl)
      simp only [ly]
      refine tkJ 28 63 hS1 ?_; simp only [ly]
      refine tkJ 29 64 hS1 ?_; simp only [ly]
      refine tkJ 30 65 hS1 ?_; simp only [ly]
      refine wpAnyH_done (by kernel_rfl) ?_ _
      have HB5 := hide (bel_next HB4.out hS1)
      have HA5 := hide (HA4.out.below hS1)
      have HO5 := hide (HO4.out.below hS1)
      have HD5 := hide (HD.out.below hS1)
      go_wp2
      go_loopw [9] (fun v wr => ∃ k : Nat, k ≤ i ∧ v = .int .i64 k ∧ Hid (allN k (twoB l (x0, x1, x2)) = true) ∧ Hid (Below wz.heap.size wz wr)) (fun v _ => i - (RowKit.intOf v).toNat)
      case atStart => exact ⟨0, by omega, rfl, rfl, Below.refl _ _⟩
      case round =>
       obtain ⟨k, hk, rfl, HT, HBk⟩ := hrel
       by_cases hkt : k < i
       ·have hk0 : (0 : Int) ≤ (k : Int) := by omega
        have hk1 : (k : Int) < (i : Int) := by omega
        have hk2 : (k : Int) < (n : Int) := by omega
        have hy : l[k]? = some (l[k]'(by omega)) := List.getElem?_eq_getElem (by omega)
        generalize l[k]'(by omega) = y at hy
        obtain ⟨y0, y1, y2⟩ := y
        have HAk := hide ((HA5.out).below HBk.out)
        obtain ⟨b9, off9, hpe, hcc⟩ := rs_cells HAk.out (by omega)
        cases hpe
        have o1 := (HO5.out.below HBk.out).cell 1 _ rfl
        have g1 := (HD5.out.below HBk.out).cell 1 _ rfl
        have f0 := hcc k _ hy 0 _ rfl
        have f1 := hcc k _ hy 1 _ rfl
        simp only [Nat.add_zero] at f0 f1
        have hstep : allN (k + 1) (twoB l (x0, x1, x2)) = !(decide (srt y0 = srt x0) && decide (y1 = x1)) := by
         rw [allN_succ, HT.out]
         unfold twoB
         rw [hy]
         rfl
        have hfar : (decide (srt y0 = srt x0) && decide (y1 = x1)) = true → opB n1 n2 n3 l = false := fun h => by
         refine HFAR.out ?_
         rw [Bool.and_eq_false_iff]
         right
         refine allN_bad (i := k) hkt ?_
         unfold twoB
         rw [hy]
         simp only
         rw [h]
         rfl
        clear hcc hy HT
        rw [hsx] at hstep hfar
        by_cases e3 : srt y0 = s
        ·have e3b : ((srt y0 : Int) == (s : Int)) = true := by rw [e3]; simp
         by_cases e4 : y1 = x1
         ·have HK : Hid (opB n1 n2 n3 l = false) := hfar (by rw [decide_eq_true e3, decide_eq_true e4]; rfl)
          subst e4
          clear hstep hfar e3
          go_upto_region 12 with fail
          refine wp_region_held_drew (S := fun W => Below wr.heap.size wr W) (by kernel_rfl) ((Below.refl _ wr).drew) (fun hS0 => ?_)
          refine tkJ 0 71 hS0 ?_; simp only [ly]
          refine tkI 1 72 ?v161 rfl rfl hS0 ?hy161 ?_
          case hy161 => (intro W hW; have e0 := bcell hW o1; have e1 := bcell hW f0; have e2 := bcell hW f1; have e3 := bcell hW g1; clear hW; go_simp; try rfl)
          simp only [ly]
          refine tkJ 2 73 hS0 ?_; simp only [ly]
          refine tkJ 3 74 hS0 ?_; simp only [ly]
          refine tkJ 4 75 hS0 ?_; simp only [ly]
          refine tkI 5 76 ?v165 rfl rfl hS0 ?hy165 ?_
          case hy165 => (intro W hW; have e0 := bcell hW o1; have e1 := bcell hW f0; have e2 := bcell hW f1; have e3 := bcell hW g1; clear hW; go_simp; try rfl)
          simp only [ly]
          refine tkJ 7 78 hS0 ?_; simp only [ly]
          refine wpAnyH_ready (rs := [6]) (by kernel_rfl) (by simp) ?_
          refine AllReadyH.cons rfl (fun K hK => ?_) AllReadyH.nil
          go_simp
          refine (Sort16b _ _).mono ?_
          rintro e wz ⟨rfl, hb⟩
          refine hK.out _ _ ?hs167 (fun hS1 => ?_)
          case hs167 => exact bel_next hS0 hb
          clear hK K hb
          try simp only [ly]
          refine tkJ 8 79 hS1 ?_; simp only [ly]
          refine tkJ 9 80 hS1 ?_; simp only [ly]
          refine tkJ 10 81 hS1 ?_; simp only [ly]
          refine tkI 11 82 ?v171 rfl rfl hS1 ?hy171 ?_
          case hy171 => (intro W hW; have e0 := bcell hW o1; have e1 := bcell hW f0; have e2 := bcell hW f1; have e3 := bcell hW g1; clear hW; go_simp; try rfl)
          simp only [ly]
          refine tkJ 12 83 hS1 ?_; simp only [ly]
          refine tkJ 13 84 hS1 ?_; simp only [ly]
          refine tkJ 14 85 hS1 ?_; simp only [ly]
          refine tkI 15 86 ?v175 rfl rfl hS1 ?hy175 ?_
          case hy175 => (intro W hW; have e0 := bcell hW o1; have e1 := bcell hW f0; have e2 := bcell hW f1; have e3 := bcell hW g1; clear hW; go_simp; try rfl)
          simp only [ly]
          refine tkJ 16 87 hS1 ?_; simp only [ly]
          refine tkI 17 88 ?v177 rfl rfl hS1 ?hy177 ?_
          case hy177 => (intro W hW; have e0 := bcell hW o1; have e1 := bcell hW f0; have e2 := bcell hW f1; have e3 := bcell hW g1; clear hW; go_simp; try rfl)
          simp only [ly]
          refine tkJ 18 89 hS1 ?_; simp only [ly]
          refine tkJ 19 90 hS1 ?_; simp only [ly]
          refine wpAnyH_done (by kernel_rfl) ?_ _
          go_wp2
          go_ret
          exact ⟨by rw [HK.out]; rfl, bel_next HB.out (bel_next HBr.out (bel_next HB5.out (bel_next HBk.out hS1)))⟩
         ·have HF2 : Hid (allN (k + 1) (twoB l (x0, x1, x2)) = true) := hstep.trans (by rw [decide_eq_false e4]; simp)
          have e4b : (y1 == x1) = false := by simpa using e4
          clear hstep hfar e3 e4
          go_upto_region 12 with fail
          refine wp_region_held_drew (S := fun W => Below wr.heap.size wr W) (by kernel_rfl) ((Below.refl _ wr).drew) (fun hS0 => ?_)
          refine tkJ 0 71 hS0 ?_; simp only [ly]
          refine tkI 1 72 ?v181 rfl rfl hS0 ?hy181 ?_
          case hy181 => (intro W hW; have e0 := bcell hW o1; have e1 := bcell hW f0; have e2 := bcell hW f1; have e3 := bcell hW g1; clear hW; go_simp; try rfl)
          simp only [ly]
          refine tkJ 2 73 hS0 ?_; simp only [ly]
          refine tkJ 3 74 hS0 ?_; simp only [ly]
          refine tkJ 4 75 hS0 ?_; simp only [ly]
          refine tkI 5 76 ?v185 rfl rfl hS0 ?hy185 ?_
          case hy185 => (intro W hW; have e0 := bcell hW o1; have e1 := bcell hW f0; have e2 := bcell hW f1; have e3 := bcell hW g1; clear hW; go_simp; try rfl)
          simp only [ly]
          refine tkJ 7 78 hS0 ?_; simp only [ly]
          refine wpAnyH_ready (rs := [6]) (by kernel_rfl) (by simp) ?_
          refine AllReadyH.cons rfl (fun K hK => ?_) AllReadyH.nil
          go_simp
          refine (Sort16b _ _).mono ?_
          rintro e wz ⟨rfl, hb⟩
          refine hK.out _ _ ?hs187 (fun hS1 => ?_)
          case hs187 => exact bel_next hS0 hb
          clear hK K hb
          try simp only [ly]
          refine tkJ 8 79 hS1 ?_; simp only [ly]
          refine tkJ 9 80 hS1 ?_; simp only [ly]
          refine tkJ 10 81 hS1 ?_; simp only [ly]
          refine tkI 11 82 ?v191 rfl rfl hS1 ?hy191 ?_
          case hy191 => (intro W hW; have e0 := bcell hW o1; have e1 := bcell hW f0; have e2 := bcell hW f1; have e3 := bcell hW g1; clear hW; go_simp; try rfl)
          simp only [ly]
          refine tkJ 12 83 hS1 ?_; simp only [ly]
          refine tkJ 13 84 hS1 ?_; simp only [ly]
          refine tkJ 14 85 hS1 ?_; simp only [ly]
          refine tkI 15 86 ?v195 rfl rfl hS1 ?hy195 ?_
          case hy195 => (intro W hW; have e0 := bcell hW o1; have e1 := bcell hW f0; have e2 := bcell hW f1; have e3 := bcell hW g1; clear hW; go_simp; try rfl)
          simp only [ly]
          refine tkJ 16 87 hS1 ?_; simp only [ly]
          refine tkI 17 88 ?v197 rfl rfl hS1 ?hy197 ?_
          case hy197 => (intro W hW; have e0 := bcell hW o1; have e1 := bcell hW f0; have e2 := bcell hW f1; have e3 := bcell hW g1; clear hW; go_simp; try rfl)
          simp only [ly]
          refine tkJ 18 89 hS1 ?_; simp only [ly]
          refine tkJ 19 90 hS1 ?_; simp only [ly]
          refine wpAnyH_done (by kernel_rfl) ?_ _
          go_wp2
          go_roundw
          case rel => exact ⟨k + 1, by omega, by go_num, HF2, hide (bel_next HBk.out hS1)⟩
          case measure => simp [RowKit.intOf] <;> omega
        ·have HF2 : Hid (allN (k + 1) (twoB l (x0, x1, x2)) = true) := hstep.trans (by rw [decide_eq_false e3]; simp)
         have e3b : ((srt y0 : Int) == (s : Int)) = false := by simp; omega
         clear hstep hfar e3
         go_upto_region 12 with fail
         refine wp_region_held_drew (S := fun W => Below wr.heap.size wr W) (by kernel_rfl) ((Below.refl _ wr).drew) (fun hS0 => ?_)
         refine tkJ 0 71 hS0 ?_; simp only [ly]
         refine tkI 1 72 ?v201 rfl rfl hS0 ?hy201 ?_
         case hy201 => (intro W hW; have e0 := bcell hW o1; have e1 := bcell hW f0; have e2 := bcell hW f1; have e3 := bcell hW g1; clear hW; go_simp; try rfl)
         simp only [ly]
         refine tkJ 2 73 hS0 ?_; simp only [ly]
         refine tkJ 3 74 hS0 ?_; simp only [ly]
         refine tkJ 4 75 hS0 ?_; simp only [ly]
         refine tkI 5 76 ?v205 rfl rfl hS0 ?hy205 ?_
         case hy205 => (intro W hW; have e0 := bcell hW o1; have e1 := bcell hW f0; have e2 := bcell hW f1; have e3 := bcell hW g1; clear hW; go_simp; try rfl)
         simp only [ly]
         refine tkJ 7 78 hS0 ?_; simp only [ly]
         refine wpAnyH_ready (rs := [6]) (by kernel_rfl) (by simp) ?_
         refine AllReadyH.cons rfl (fun K hK => ?_) AllReadyH.nil
         go_simp
         refine (Sort16b _ _).mono ?_
         rintro e wz ⟨rfl, hb⟩
         refine hK.out _ _ ?hs207 (fun hS1 => ?_)
         case hs207 => exact bel_next hS0 hb
         clear hK K hb
         try simp only [ly]
         refine tkJ 8 79 hS1 ?_; simp only [ly]
         refine tkJ 9 80 hS1 ?_; simp only [ly]
         refine tkM 10 81 hS1 ?_; simp only [ly]
         refine tkM 11 82 hS1 ?_; simp only [ly]
         refine tkM 12 83 hS1 ?_; simp only [ly]
         refine tkM 13 84 hS1 ?_; simp only [ly]
         refine tkM 14 85 hS1 ?_; simp only [ly]
         refine tkM 15 86 hS1 ?_; simp only [ly]
         refine tkM 16 87 hS1 ?_; simp only [ly]
         refine tkM 17 88 hS1 ?_; simp only [ly]
         refine tkM 18 89 hS1 ?_; simp only [ly]
         refine tkJ 19 90 hS1 ?_; simp only [ly]
         refine wpAnyH_done (by kernel_rfl) ?_ _
         go_wp2
         go_roundw
         case rel => exact ⟨k + 1, by omega, by go_num, HF2, hide (bel_next HBk.out hS1)⟩
         case measure => simp [RowKit.intOf] <;> omega
       ·obtain rfl : k = i := by omega
        have HF2 : Hid (allN (k + 1) (doB n1 n2 n3 l) = true) := by
         unfold Hid
         rw [allN_succ, HF.out, HONE.out, HDG.out, HT.out]
         rfl
        clear HT
        go_wp2
        go_roundw
        case rel => exact ⟨k + 1, by omega, by go_num, HF2, hide (bel_next HBr.out (bel_next HB5.out HBk.out))⟩
        case measure => simp [RowKit.intOf] <;> omega
     ·have HK : Hid (opB n1 n2 n3 l = false) := HFAR.out (by rw [hdgv, decide_eq_false h1]; rfl)
      have h1b : (x2 != 0) = true := by simpa using h1
      clear hdgv hs2 h1
      refine wp_region_held_drew (S := fun W => Below w4.heap.size w4 W) (by kernel_rfl) ((Below.refl _ w4).drew) (fun hS0 => ?_)
      refine tkJ 0 35 hS0 ?_; simp only [ly]
      refine tkI 1 36 ?v212 rfl rfl hS0 ?hy212 ?_
      case hy212 => (intro W hW; have e0 := bcell hW e1; have e1 := bcell hW e2; have e2 := bcell hW m0; clear hW; go_simp; try rfl)
      simp only [ly]
      refine tkJ 2 37 hS0 ?_; simp only [ly]
      refine tkJ 3 38 hS0 ?_; simp only [ly]
      refine tkJ 4 39 hS0 ?_; simp only [ly]
      refine tkI 5 40 ?v216 rfl rfl hS0 ?hy216 ?_
      case hy216 => (intro W hW; have e0 := bcell hW e1; have e1 := bcell hW e2; have e2 := bcell hW m0; clear hW; go_simp; try rfl)
      simp only [ly]
      refine wpAnyH_ready (rs := [6]) (by kernel_rfl) (by simp) ?_
      refine AllReadyH.cons rfl (fun K hK => ?_) AllReadyH.nil
      go_simp
      refine (in16b _ _ _).mono ?_
      rintro e wz ⟨rfl, hb⟩
      rw [HIN.out]
      refine hK.out _ _ ?hs217 (fun hS1 => ?_)
      case hs217 => exact bel_next hS0 hb
      clear hK K hb
      try simp only [ly]
      refine tkJ 7 42 hS1 ?_; simp only [ly]
      refine tkJ 8 43 hS1 ?_; simp only [ly]
      refine tkJ 9 44 hS1 ?_; simp only [ly]
      refine tkJ 10 45 hS1 ?_; simp only [ly]
      refine tkJ 11 46 hS1 ?_; simp only [ly]
      refine tkM 12 47 hS1 ?_; simp only [ly]
      refine tkM 13 48 hS1 ?_; simp only [ly]
      refine tkM 14 49 hS1 ?_; simp only [ly]
      refine tkM 15 50 hS1 ?_; simp only [ly]
      refine tkM 16 51 hS1 ?_; simp only [ly]
      refine tkM 17 52 hS1 ?_; simp only [ly]
      refine tkM 18 53 hS1 ?_; simp only [ly]
      refine tkM 19 54 hS1 ?_; simp only [ly]
      refine tkJ 20 55 hS1 ?_; simp only [ly]
      refine tkJ 21 56 hS1 ?_; simp only [ly]
      refine tkJ 22 57 hS1 ?_; simp only [ly]
      refine tkJ 23 58 hS1 ?_; simp only [ly]
      refine tkJ 24 59 hS1 ?_; simp only [ly]
      refine tkJ 25 60 hS1 ?_; simp only [ly]
      refine tkJ 26 61 hS1 ?_; simp only [ly]
      refine tkI 27 62 ?v230 rfl rfl hS1 ?hy230 ?_
      case hy230 => (intro W hW; have e0 := bcell hW e1; have e1 := bcell hW e2; have e2 := bcell hW m0; clear hW; go_simp; try rfl)
      simp only [ly]
      refine tkJ 28 63 hS1 ?_; simp only [ly]
      refine tkJ 29 64 hS1 ?_; simp only [ly]
      refine tkJ 30 65 hS1 ?_; simp only [ly]
      refine wpAnyH_done (by kernel_rfl) ?_ _
      go_wp2
      go_ret
      exact ⟨by rw [HK.out]; rfl, bel_next HB.out (bel_next HBr.out (bel_next HB4.out hS1))⟩
  ·obtain rfl : i = n := by omega
   obtain ⟨LV9, hLV⟩ : ∃ b : Bool, opB n1 n2 n3 l = b := ⟨_, rfl⟩
   have hopv := hLV
   unfold opB at hopv
   rw [hln, HF.out, Bool.true_and] at hopv
   have HK := hide hLV
   clear hLV
   by_cases h1 : 1 ≤ i
   ·by_cases h2 : i ≤ 16
    ·rw [decide_eq_true h1, decide_eq_true h2] at hopv
     have h1i : (1 : Int) ≤ (i : Int) := by omega
     have h2i : (i : Int) ≤ 16 := by omega
     subst hopv
     go_wp2
     go_ret
     exact ⟨by rw [HK.out]; rfl, bel_next HB.out HBr.out⟩
    ·rw [decide_eq_true h1, decide_eq_false h2] at hopv
     have h1i : (1 : Int) ≤ (i : Int) := by omega
     have h2i : ¬ (i : Int) ≤ 16 := by omega
     subst hopv
     go_wp2
     go_ret
     exact ⟨by rw [HK.out]; rfl, bel_next HB.out HBr.out⟩
   ·rw [decide_eq_false h1] at hopv
    have h1i : ¬ (1 : Int) ≤ (i : Int) := by omega
    subst hopv
    go_wp2
    go_ret
    exact ⟨by rw [HK.out]; rfl, bel_next HB.out HBr.out⟩
end Go.Proofs.YtomppblgalepjaaGreatDoor

