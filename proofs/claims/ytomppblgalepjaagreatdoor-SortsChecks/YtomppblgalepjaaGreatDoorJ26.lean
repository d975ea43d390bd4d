/- Texts of this claim, joined: OG. -/
import Derived.Test.YtomppblgalepjaaGreatDoorJ23
/- A deed is seen (the program's, layer 16). -/
namespace Go.Proofs.YtomppblgalepjaaGreatDoor
open Go.RowKit Go.Lib
set_option linter.unusedVariables false
def amtB (s n : Int) : Bool := if s = 2 then decide (1 ≤ n) && decide (n ≤ 1000) else decide (n = 0)
def srI (k : Int) : Int := (srt k : Int)
theorem srI_in (k : Int) : srI k = 0 ∨ srI k = 1 ∨ srI k = 2 ∨ srI k = 3 := by
 unfold srI srt
 split
 ·right; left; rfl
 ·split
  ·right; right; left; rfl
  ·split
   ·right; right; right; rfl
   ·left; rfl
def doS (h : Int × Int × Int) (op : Int) (f : Int → Int → Int) (d : Dg) : Bool := (!decide (srI d.1 = 0) && hasB h (srI d.1) d.2.1 && amtB (srI d.1) d.2.2) && !decide (f (srI d.1) d.2.1 = op)
theorem hasB_pos {h : Int × Int × Int} {s c : Int} (hs : s = 1 ∨ s = 2 ∨ s = 3) (hb : hasB h s c = true) (hm : h.1 ≤ 1000000 ∧ h.2.1 ≤ 1000000 ∧ h.2.2 ≤ 1000000) : 0 ≤ c ∧ c < 1000000 := by
 unfold hasB inR at hb
 rcases hs with rfl | rfl | rfl
 ·rw [if_neg (by decide), if_pos rfl, decide_eq_true_iff] at hb; omega
 ·rw [if_neg (by decide), if_neg (by decide), if_pos rfl, decide_eq_true_iff] at hb; omega
 ·rw [if_neg (by decide), if_neg (by decide), if_neg (by decide), decide_eq_true_iff] at hb; omega
theorem wpo_thing {o : Oper} {a : Act} {K : Act → World → Prop} {Q : Exit → Act → World → Prop} (w : World) (m x v : Operand) (hop : o.op = Op.mapUpdate 82 m x v) {b k : Nat} {f : Int → Int → Int} {s c z : Int} (hm : a.eval m = .map (some b)) (h : LMp w b k f) (hk : k < maxLen) (hx : a.eval x = .agg #[.int .i64 s, .int .i64 c]) (hv : a.eval v = .int .i64 z) (hs : (Lit.int .i64 s).wf = true) (hc : (Lit.int .i64 c).wf = true) (hz : (Lit.int .i64 z).wf = true)
  (hK : ∀ w', LMp w' b (k + 1) (setL16 f s c z) → w.grownBy w' (some b) → K (a.put o.dst undef) w') : Oper.wp Tryz.prog o a w K Q := by
 obtain ⟨w', hrun, r1, r2⟩ := h.put hk hs hc hz
 unfold Oper.wp
 simp [execOp, hop, hm, hx, hv, hrun, Result.andThen]
 exact hK w' r1 r2
theorem SN.las {w w' : World} {D k : Nat} {h : Int × Int × Int} {x : Sn16} {f : Int → Int → Int} (hs : SN w D h k x) (hn : LMp w' (D + 2) (k + 1) f) (hg : w.grownBy w' (some (D + 2))) : SN w' D h (k + 1) (x.1, x.2.1, x.2.2.1, f) :=
 ⟨hs.1.grown hg (by simp), (hs.2.1.keep (hg.block _ hs.2.1.lt (by simp))).mono (by omega), (hs.2.2.1.keep (hg.block _ hs.2.2.1.lt (by simp))).mono (by omega), hn⟩
theorem amount16 (s n : Int) (w : World) : Calls Tryz.prog 81 #[.int .i64 s, .int .i64 n] w fun e w' => e = .returned (.bool (amtB s n)) ∧ w' = w := by
 by_cases h2 : s = 2
 ·subst h2
  by_cases n1 : 1 ≤ n
  ·by_cases n2 : n ≤ 1000
   ·have HR : Hid (amtB 2 n = true) := by unfold Hid amtB; rw [if_pos rfl, decide_eq_true n1, decide_eq_true n2]; rfl
    go_enter Tryz.func81, Tryz.ntmps81
    go_wp2
    go_ret
    exact ⟨by rw [HR.out]; rfl, rfl⟩
   ·have HR : Hid (amtB 2 n = decide (n ≤ 1000)) := by unfold Hid amtB; rw [if_pos rfl, decide_eq_true n1]; rfl
    clear n2
    go_enter Tryz.func81, Tryz.ntmps81
    go_wp2
    go_ret
    exact ⟨by rw [HR.out]; rfl, rfl⟩
  ·have HR : Hid (amtB 2 n = false) := by unfold Hid amtB; rw [if_pos rfl, decide_eq_false n1]; rfl
   go_enter Tryz.func81, Tryz.ntmps81
   go_wp2
   go_ret
   exact ⟨by rw [HR.out]; rfl, rfl⟩
 ·have HR : Hid (amtB s n = decide (n = 0)) := by unfold Hid amtB; rw [if_neg h2]
  have b2 : (s == 2) = false := by simpa using h2
  clear h2
  by_cases h0 : n = 0
  ·subst h0
   go_enter Tryz.func81, Tryz.ntmps81
   go_wp2
   go_ret
   exact ⟨by rw [HR.out]; rfl, rfl⟩
  ·have HE := hide (decide_eq_false h0)
   have b0 : (n == 0) = false := by simpa using h0
   clear h0
   go_enter Tryz.func81, Tryz.ntmps81
   go_wp2
   go_ret
   exact ⟨by rw [HR.out, HE.out]; rfl, rfl⟩
theorem sort16 (k : Int) (w : World) : Calls Tryz.prog 55 #[.int .i64 k] w fun e w' => e = .returned (.int .i64 (srI k)) ∧ w' = w := by
 unfold srI srt
 by_cases h1 : k = 1
 ·subst h1
  rw [if_pos (.inl rfl)]
  go_enter Tryz.func55, Tryz.ntmps55
  go_wp2
  go_ret
  exact ⟨rfl, rfl⟩
 by_cases h2 : k = 2
 ·subst h2
  rw [if_pos (.inr rfl)]
  go_enter Tryz.func55, Tryz.ntmps55
  go_wp2
  go_ret
  exact ⟨rfl, rfl⟩
 by_cases h3 : k = 3
 ·subst h3
  rw [if_neg (by decide), if_pos (.inl rfl)]
  go_enter Tryz.func55, Tryz.ntmps55
  go_wp2
  go_ret
  exact ⟨rfl, rfl⟩
 by_cases h4 : k = 4
 ·subst h4
  rw [if_neg (by decide), if_pos (.inr rfl)]
  go_enter Tryz.func55, Tryz.ntmps55
  go_wp2
  go_ret
  exact ⟨rfl, rfl⟩
 by_cases h6 : k = 6
 ·subst h6
  rw [if_neg (by decide), if_neg (by decide), if_pos rfl]
  go_enter Tryz.func55, Tryz.ntmps55
  go_wp2
  go_ret
  exact ⟨rfl, rfl⟩
 rw [if_neg (by omega), if_neg (by omega), if_neg h6]
 have b1 : (k == 1) = false := by simpa using h1
 have b2 : (k == 2) = false := by simpa using h2
 have b3 : (k == 3) = false := by simpa using h3
 have b4 : (k == 4) = false := by simpa using h4
 have b6 : (k == 6) = false := by simpa using h6
 clear h1 h2 h3 h4 h6
 go_enter Tryz.func55, Tryz.ntmps55
 go_wp2
 go_ret
 exact ⟨rfl, rfl⟩
set_option maxHeartbeats 4000000 in
set_option maxRecDepth 8000 in
theorem doing16 (D k : Nat) (h : Int × Int × Int) (t1 t2 t3 cl op : Int) (S : List ByteArray) (G : List Int) (f : Int → Int → Int) (kd of n : Int) (w : World) (hS : SN w D h k ((t1, t2, t3, cl, op), S, G, f)) (hk : k ≤ 10000) (ho : 0 ≤ op ∧ op ≤ 1000) (hh : h.1 ≤ 1000000 ∧ h.2.1 ≤ 1000000 ∧ h.2.2 ≤ 1000000) :
  Calls Tryz.prog 70 #[.pointer (some ⟨D + 3, 0, none⟩), .agg #[.int .i64 kd, .int .i64 of, .int .i64 n]] w (SP 3 D h (k + 1) ((t1, t2, t3, cl, op), S, G, setL16 f (srI kd) of op) (doS h op f (kd, of, n)) w) := by
 have HSN := hide hS
 have HWP : Hid ((Lit.int .i64 op).wf = true) := WalkArith.wf_i64 (by omega)
 have hsr := srI_in kd
 obtain ⟨s, hsi⟩ : ∃ s, srI kd = s := ⟨_, rfl⟩
 rw [hsi] at hsr ⊢
 have HSI := hide hsi
 have HSR := hide hsr
 clear hS hsi
 by_cases h0 : s = 0
 ·have s0 : (!decide (s = 0)) = false := by simp [h0]
  have b0 : (s == 0) = true := by simpa using h0
  clear h0 hsr
  have HR : Hid (doS h op f (kd, of, n) = false) := by unfold Hid doS; rw [HSI.out]; rw [s0]; simp
  go_enter Tryz.func70, Tryz.ntmps70
  go_upto_region 1 with fail
  have HBL := hide (bel1 w (.cells #[.int .i64 kd, .int .i64 of, .int .i64 n] 60))
  have HXC : Hid (BX (w.alloc (.cells #[.int .i64 kd, .int .i64 of, .int .i64 n] 60)) w.heap.size #[.int .i64 kd, .int .i64 of, .int .i64 n] 60) := BX.new w _ rfl _ _
  generalize w.alloc (.cells #[.int .i64 kd, .int .i64 of, .int .i64 n] 60) = u at *
  have c0 := HXC.out.cell 0 _ rfl
  have c1 := HXC.out.cell 1 _ rfl
  have c2 := HXC.out.cell 2 _ rfl
  clear HXC
  go_wp2_with (first | (go_at_call 55; refine (sort16 _ _).mono ?_; rintro e w1 ⟨rfl, hw9⟩; have hw8 := hw9.symm; subst hw8; clear hw9; rw [HSI.out]) | (go_at_call 77; refine (has16 D k h _ s of _ (HSN.out.below HBL.out) HSR.out).mono ?_; rintro e w2 ⟨rfl, hb⟩; replace HBL := hide (bel_next HBL.out hb); replace c0 := bcell hb c0; replace c1 := bcell hb c1; replace c2 := bcell hb c2; clear hb) | (go_at_call 81; refine (amount16 _ _ _).mono ?_; rintro e w3 ⟨rfl, hw9⟩; have hw8 := hw9.symm; subst hw8; clear hw9))
  go_ret
  exact ⟨by rw [HR.out]; rfl, GQ.below 3 D HBL.out, fun hh => by rw [HR.out] at hh; cases hh⟩
 have hs3 : s = 1 ∨ s = 2 ∨ s = 3 := by omega
 have s0 : (!decide (s = 0)) = true := by simp [h0]
 have b0 : (s == 0) = false := by simpa using h0
 have HWS : Hid ((Lit.int .i64 s).wf = true) := WalkArith.wf_i64 (by omega)
 clear h0 hsr
 rcases hha : hasB h s of with _ | _
 ·have HHA := hide hha
  clear hha hs3
  have HR : Hid (doS h op f (kd, of, n) = false) := by unfold Hid doS; rw [HSI.out]; rw [HHA.out]; simp
  go_enter Tryz.func70, Tryz.ntmps70
  go_upto_region 1 with fail
  have HBL := hide (bel1 w (.cells #[.int .i64 kd, .int .i64 of, .int .i64 n] 60))
  have HXC : Hid (BX (w.alloc (.cells #[.int .i64 kd, .int .i64 of, .int .i64 n] 60)) w.heap.size #[.int .i64 kd, .int .i64 of, .int .i64 n] 60) := BX.new w _ rfl _ _
  generalize w.alloc (.cells #[.int .i64 kd, .int .i64 of, .int .i64 n] 60) = u at *
  have c0 := HXC.out.cell 0 _ rfl
  have c1 := HXC.out.cell 1 _ rfl
  have c2 := HXC.out.cell 2 _ rfl
  clear HXC
  go_wp2_with (first | (go_at_call 55; refine (sort16 _ _).mono ?_; rintro e w1 ⟨rfl, hw9⟩; have hw8 := hw9.symm; subst hw8; clear hw9; rw [HSI.out]) | (go_at_call 77; refine (has16 D k h _ s of _ (HSN.out.below HBL.out) HSR.out).mono ?_; rintro e w2 ⟨rfl, hb⟩; rw [HHA.out]; replace HBL := hide (bel_next HBL.out hb); replace c0 := bcell hb c0; replace c1 := bcell hb c1; replace c2 := bcell hb c2; clear hb) | (go_at_call 81; refine (amount16 _ _ _).mono ?_; rintro e w3 ⟨rfl, hw9⟩; have hw8 := hw9.symm; subst hw8; clear hw9))
  go_ret
  exact ⟨by rw [HR.out]; rfl, GQ.below 3 D HBL.out, fun hh => by rw [HR.out] at hh; cases hh⟩
 have HHA := hide hha
 have HWO : Hid ((Lit.int .i64 of).wf = true) := by have q := hasB_pos hs3 hha hh; exact WalkArith.wf_i64 (by omega)
 clear hha hs3
 rcases ham : amtB s n with _ | _
 ·have HAM := hide ham
  clear ham
  have HR : Hid (doS h op f (kd, of, n) = false) := by unfold Hid doS; rw [HSI.out]; rw [HAM.out]; simp
  go_enter Tryz.func70, Tryz.ntmps70
  go_upto_region 1 with fail
  have HBL := hide (bel1 w (.cells #[.int .i64 kd, .int .i64 of, .int .i64 n] 60))
  have HXC : Hid (BX (w.alloc (.cells #[.int .i64 kd, .int .i64 of, .int .i64 n] 60)) w.heap.size #[.int .i64 kd, .int .i64 of, .int .i64 n] 60) := BX.new w _ rfl _ _
  generalize w.alloc (.cells #[.int .i64 kd, .int .i64 of, .int .i64 n] 60) = u at *
  have c0 := HXC.out.cell 0 _ rfl
  have c1 := HXC.out.cell 1 _ rfl
  have c2 := HXC.out.cell 2 _ rfl
  clear HXC
  go_wp2_with (first | (go_at_call 55; refine (sort16 _ _).mono ?_; rintro e w1 ⟨rfl, hw9⟩; have hw8 := hw9.symm; subst hw8; clear hw9; rw [HSI.out]) | (go_at_call 77; refine (has16 D k h _ s of _ (HSN.out.below HBL.out) HSR.out).mono ?_; rintro e w2 ⟨rfl, hb⟩; rw [HHA.out]; replace HBL := hide (bel_next HBL.out hb); replace c0 := bcell hb c0; replace c1 := bcell hb c1; replace c2 := bcell hb c2; clear hb) | (go_at_call 81; refine (amount16 _ _ _).mono ?_; rintro e w3 ⟨rfl, hw9⟩; have hw8 := hw9.symm; subst hw8; clear hw9; rw [HAM.out]))
  go_ret
  exact ⟨by rw [HR.out]; rfl, GQ.below 3 D HBL.out, fun hh => by rw [HR.out] at hh; cases hh⟩
 have HAM := hide ham
 clear ham
 by_cases hf : f s of = op
 ·have HFV : Hid (f s of = op) := hf
  have HFE : Hid (decide (f s of = op) = true) := by unfold Hid; simp [hf]
  clear hf
  have HR : Hid (doS h op f (kd, of, n) = false) := by unfold Hid doS; rw [HSI.out]; rw [s0, HHA.out, HAM.out, HFE.out]; rfl
  go_enter Tryz.func70, Tryz.ntmps70
  go_upto_region 1 with fail
  have HBL := hide (bel1 w (.cells #[.int .i64 kd, .int .i64 of, .int .i64 n] 60))
  have HXC : Hid (BX (w.alloc (.cells #[.int .i64 kd, .int .i64 of, .int .i64 n] 60)) w.heap.size #[.int .i64 kd, .int .i64 of, .int .i64 n] 60) := BX.new w _ rfl _ _
  generalize w.alloc (.cells #[.int .i64 kd, .int .i64 of, .int .i64 n] 60) = u at *
  have c0 := HXC.out.cell 0 _ rfl
  have c1 := HXC.out.cell 1 _ rfl
  have c2 := HXC.out.cell 2 _ rfl
  clear HXC
  go_upto_region 4 with (first | (go_at_call 55; refine (sort16 _ _).mono ?_; rintro e w1 ⟨rfl, hw9⟩; have hw8 := hw9.symm; subst hw8; clear hw9; rw [HSI.out]) | (go_at_call 77; refine (has16 D k h _ s of _ (HSN.out.below HBL.out) HSR.out).mono ?_; rintro e w2 ⟨rfl, hb⟩; rw [HHA.out]; replace HBL := hide (bel_next HBL.out hb); replace c0 := bcell hb c0; replace c1 := bcell hb c1; replace c2 := bcell hb c2; clear hb) | (go_at_call 81; refine (amount16 _ _ _).mono ?_; rintro e w3 ⟨rfl, hw9⟩; have hw8 := hw9.symm; subst hw8; clear hw9; rw [HAM.out]))
  go_upto_region 5 with fail
  have HS3 := hide (HSN.out.below (bel_next HBL.out (bel1 w2 (.cells #[.int .i64 s, .int .i64 of] 123))))
  have HB3 := hide (bel_next HBL.out (bel1 w2 (.cells #[.int .i64 s, .int .i64 of] 123)))
  have HXK : Hid (BX (w2.alloc (.cells #[.int .i64 s, .int .i64 of] 123)) w2.heap.size #[.int .i64 s, .int .i64 of] 123) := BX.new w2 _ rfl _ _
  have HGK : Hid (D + 3 ≤ w2.heap.size) := Nat.le_of_lt (HSN.out.below HBL.out).size
  generalize w2.alloc (.cells #[.int .i64 s, .int .i64 of] 123) = u3 at *
  generalize w2.heap.size = gk at *
  have m12 : u3.cell? ⟨D + 3, 12, none⟩ = some (.map (some (D + 2))) := HS3.out.1.cell 12 _ rfl
  have o9 : u3.cell? ⟨D + 3, 9, none⟩ = some (.int .i64 op) := HS3.out.1.cell 9 _ rfl
  have k0 := HXK.out.cell 0 _ rfl
  have k1 := HXK.out.cell 1 _ rfl
  have HLM := hide HS3.out.2.2.2
  clear HXK c0 c1 c2
  refine wp_region_held_drew (S := fun W => Below u3.heap.size u3 W) (by kernel_rfl) ((Below.refl _ u3).drew) (fun hS0 => ?_)
  refine tkJ 0 32 hS0 ?_; simp only [ly]
  refine tkJ 1 33 hS0 ?_; simp only [ly]
  refine tkJ 2 34 hS0 ?_; simp only [ly]
  refine tkI 3 35 ?v4 rfl rfl hS0 ?hy4 ?_
  case hy4 => (intro W hW; have e0 := bcell hW m12; have e1 := bcell hW k0; have e2 := bcell hW k1; have e3 := bcell hW o9; clear hW; go_simp; try rfl)
  simp only [ly]
  refine tkI 4 36 ?v5 rfl rfl hS0 ?hy5 ?_
  case hy5 => (intro W hW; have e0 := bcell hW m12; have e1 := bcell hW k0; have e2 := bcell hW k1; have e3 := bcell hW o9; clear hW; go_simp; try rfl)
  simp only [ly]
  refine tkI 5 37 ?v6 rfl rfl hS0 ?hy6 ?_
  case hy6 => (intro W hW; have hl := (HLM.out.keep (hW.block _ HLM.out.lt)).look HWS.out HWO.out HFV.out; clear hW; go_simp; try rfl)
  simp only [ly]
  refine tkJ 6 38 hS0 ?_; simp only [ly]
  refine tkJ 7 39 hS0 ?_; simp only [ly]
  refine tkJ 8 40 hS0 ?_; simp only [ly]
  refine tkI 9 41 ?v10 rfl rfl hS0 ?hy10 ?_
  case hy10 => (intro W hW; have e0 := bcell hW m12; have e1 := bcell hW k0; have e2 := bcell hW k1; have e3 := bcell hW o9; clear hW; go_simp; try rfl)
  simp only [ly]
  refine tkJ 10 42 hS0 ?_; simp only [ly]
  refine tkJ 11 7 hS0 ?_; simp only [ly]
  refine wpAnyH_done (by kernel_rfl) ?_ _
  go_upto_region 6 with fail
  have HB4 : Hid (Below u3.heap.size u3 u3.drew) := (Below.refl u3.heap.size u3).drew
  have HS4 := hide (HS3.out.below HB4.out)
  replace m12 := bcell HB4.out m12
  replace o9 := bcell HB4.out o9
  replace k0 := bcell HB4.out k0
  replace k1 := bcell HB4.out k1
  clear HLM
  generalize u3.drew = u4 at *
  have HLM := hide HS4.out.2.2.2
  refine wp_region_held_drew (S := fun W => GQ 3 D u4 W) (by kernel_rfl) ((GQ.refl 3 D u4).drew) (fun hS0 => ?_)
  refine tkJ 0 43 hS0 ?_; simp only [ly]
  refine tkJ 1 44 hS0 ?_; simp only [ly]
  refine tkJ 2 45 hS0 ?_; simp only [ly]
  refine tkI 3 46 ?v16 rfl rfl hS0 ?hy16 ?_
  case hy16 => (intro W hW; have e0 := gqcell hW m12 (.inr (by first | exact Nat.le_refl _ | exact HGK.out)); have e1 := gqcell hW k0 (.inr (by first | exact Nat.le_refl _ | exact HGK.out)); have e2 := gqcell hW k1 (.inr (by first | exact Nat.le_refl _ | exact HGK.out)); have e3 := gqcell hW o9 (.inr (by first | exact Nat.le_refl _ | exact HGK.out)); clear hW; go_simp; try rfl)
  simp only [ly]
  refine tkI 4 47 ?v17 rfl rfl hS0 ?hy17 ?_
  case hy17 => (intro W hW; have e0 := gqcell hW m12 (.inr (by first | exact Nat.le_refl _ | exact HGK.out)); have e1 := gqcell hW k0 (.inr (by first | exact Nat.le_refl _ | exact HGK.out)); have e2 := gqcell hW k1 (.inr (by first | exact Nat.le_refl _ | exact HGK.out)); have e3 := gqcell hW o9 (.inr (by first | exact Nat.le_refl _ | exact HGK.out)); clear hW; go_simp; try rfl)
  simp only [ly]
  refine tkJ 5 48 hS0 ?_; simp only [ly]
  refine tkJ 6 49 hS0 ?_; simp only [ly]
  refine tkJ 7 50 hS0 ?_; simp only [ly]
  refine tkI 8 51 ?v21 rfl rfl hS0 ?hy21 ?_
  case hy21 => (intro W hW; have e0 := gqcell hW m12 (.inr (by first | exact Nat.le_refl _ | exact HGK.out)); have e1 := gqcell hW k0 (.inr (by first | exact Nat.le_refl _ | exact HGK.out)); have e2 := gqcell hW k1 (.inr (by first | exact Nat.le_refl _ | exact HGK.out)); have e3 := gqcell hW o9 (.inr (by first | exact Nat.le_refl _ | exact HGK.out)); clear hW; go_simp; try rfl)
  simp only [ly]
  refine wpAnyH_ready (rs := [9]) (by kernel_rfl) (by simp) ?_
  refine AllReadyH.cons rfl (fun K hK => ?_) AllReadyH.nil
  refine wpo_thing _ _ _ _ rfl rfl (LMp.keep HLM.out rfl) (by unfold maxLen; omega) rfl rfl HWS.out HWO.out HWP.out ?_
  intro w5 hn5 hg5
  have HN5 := hide hn5
  have HG5 := hide hg5
  clear hn5 hg5
  change K (Act.put _ none _) _
  refine hK.out _ _ ?hs22 (fun hS1 => ?_)
  case hs22 => exact GQ.put hS0 (by omega) (by omega) HG5.out
  clear hK K
  refine wpAnyH_done (by kernel_rfl) ?_ _
  have HQ := hide hS1
  go_wp2
  go_ret
  exact ⟨by rw [HR.out]; rfl, (GQ.below 3 D HB3.out).trans ((GQ.below 3 D HB4.out).trans HQ.out), fun hh => by rw [HR.out] at hh; cases hh⟩
 ·obtain ⟨z, hz⟩ : ∃ z, f s of = z := ⟨_, rfl⟩
  have HFV : Hid (f s of = z) := hz
  have HFE : Hid (decide (f s of = op) = false) := by unfold Hid; simp [hf]
  have bz : (z == op) = false := by rw [← hz]; simpa using hf
  clear hz
  clear hf
  have HR : Hid (doS h op f (kd, of, n) = true) := by unfold Hid doS; rw [HSI.out]; rw [s0, HHA.out, HAM.out, HFE.out]; rfl
  go_enter Tryz.func70, Tryz.ntmps70
  go_upto_region 1 with fail
  have HBL := hide (bel1 w (.cells #[.int .i64 kd, .int .i64 of, .int .i64 n] 60))
  have HXC : Hid (BX (w.alloc (.cells #[.int .i64 kd, .int .i64 of, .int .i64 n] 60)) w.heap.size #[.int .i64 kd, .int .i64 of, .int .i64 n] 60) := BX.new w _ rfl _ _
  generalize w.alloc (.cells #[.int .i64 kd, .int .i64 of, .int .i64 n] 60) = u at *
  have c0 := HXC.out.cell 0 _ rfl
  have c1 := HXC.out.cell 1 _ rfl
  have c2 := HXC.out.cell 2 _ rfl
  clear HXC
  go_upto_region 4 with (first | (go_at_call 55; refine (sort16 _ _).mono ?_; rintro e w1 ⟨rfl, hw9⟩; have hw8 := hw9.symm; subst hw8; clear hw9; rw [HSI.out]) | (go_at_call 77; refine (has16 D k h _ s of _ (HSN.out.below HBL.out) HSR.out).mono ?_; rintro e w2 ⟨rfl, hb⟩; rw [HHA.out]; replace HBL := hide (bel_next HBL.out hb); replace c0 := bcell hb c0; replace c1 := bcell hb c1; replace c2 := bcell hb c2; clear hb) | (go_at_call 81; refine (amount16 _ _ _).mono ?_; rintro e w3 ⟨rfl, hw9⟩; have hw8 := hw9.symm; subst hw8; clear hw9; rw [HAM.out]))
  go_upto_region 5 with fail
  have HS3 := hide (HSN.out.below (bel_next HBL.out (bel1 w2 (.cells #[.int .i64 s, .int .i64 of] 123))))
  have HB3 := hide (bel_next HBL.out (bel1 w2 (.cells #[.int .i64 s, .int .i64 of] 123)))
  have HXK : Hid (BX (w2.alloc (.cells #[.int .i64 s, .int .i64 of] 123)) w2.heap.size #[.int .i64 s, .int .i64 of] 123) := BX.new w2 _ rfl _ _
  have HGK : Hid (D + 3 ≤ w2.heap.size) := Nat.le_of_lt (HSN.out.below HBL.out).size
  generalize w2.alloc (.cells #[.int .i64 s, .int .i64 of] 123) = u3 at *
  generalize w2.heap.size = gk at *
  have m12 : u3.cell? ⟨D + 3, 12, none⟩ = some (.map (some (D + 2))) := HS3.out.1.cell 12 _ rfl
  have o9 : u3.cell? ⟨D + 3, 9, none⟩ = some (.int .i64 op) := HS3.out.1.cell 9 _ rfl
  have k0 := HXK.out.cell 0 _ rfl
  have k1 := HXK.out.cell 1 _ rfl
  have HLM := hide HS3.out.2.2.2
  clear HXK c0 c1 c2
  refine wp_region_held_drew (S := fun W => Below u3.heap.size u3 W) (by kernel_rfl) ((Below.refl _ u3).drew) (fun hS0 => ?_)
  refine tkJ 0 32 hS0 ?_; simp only [ly]
  refine tkJ 1 33 hS0 ?_; simp only [ly]
  refine tkJ 2 34 hS0 ?_; simp only [ly]
  refine tkI 3 35 ?v26 rfl rfl hS0 ?hy26 ?_
  case hy26 => (intro W hW; have e0 := bcell hW m12; have e1 := bcell hW k0; have e2 := bcell hW k1; have e3 := bcell hW o9; clear hW; go_simp; try rfl)
  simp only [ly]
  refine tkI 4 36 ?v27 rfl rfl hS0 ?hy27 ?_
  case hy27 => (intro W hW; have e0 := bcell hW m12; have e1 := bcell hW k0; have e2 := bcell hW k1; have e3 := bcell hW o9; clear hW; go_simp; try rfl)
  simp only [ly]
  refine tkI 5 37 ?v28 rfl rfl hS0 ?hy28 ?_
  case hy28 => (intro W hW; have hl := (HLM.out.keep (hW.block _ HLM.out.lt)).look HWS.out HWO.out HFV.out; clear hW; go_simp; try rfl)
  simp only [ly]
  refine tkJ 6 38 hS0 ?_; simp only [ly]
  refine tkJ 7 39 hS0 ?_; simp only [ly]
  refine tkJ 8 40 hS0 ?_; simp only [ly]
  refine tkI 9 41 ?v32 rfl rfl hS0 ?hy32 ?_
  case hy32 => (intro W hW; have e0 := bcell hW m12; have e1 := bcell hW k0; have e2 := bcell hW k1; have e3 := bcell hW o9; clear hW; go_simp; try rfl)
  simp only [ly]
  refine tkJ 10 42 hS0 ?_; simp only [ly]
  refine tkJ 11 7 hS0 ?_; simp only [ly]
  refine wpAnyH_done (by kernel_rfl) ?_ _
  go_upto_region 6 with fail
  have HB4 : Hid (Below u3.heap.size u3 u3.drew) := (Below.refl u3.heap.size u3).drew
  have HS4 := hide (HS3.out.below HB4.out)
  replace m12 := bcell HB4.out m12
  replace o9 := bcell HB4.out o9
  replace k0 := bcell HB4.out k0
  replace k1 := bcell HB4.out k1
  clear HLM
  generalize u3.drew = u4 at *
  have HLM := hide HS4.out.2.2.2
  refine wp_region_held_drew (S := fun W => GQ 3 D u4 W) (by kernel_rfl) ((GQ.refl 3 D u4).drew) (fun hS0 => ?_)
  refine tkJ 0 43 hS0 ?_; simp only [ly]
  refine tkJ 1 44 hS0 ?_; simp only [ly]
  refine tkJ 2 45 hS0 ?_; simp only [ly]
  refine tkI 3 46 ?v38 rfl rfl hS0 ?hy38 ?_
  case hy38 => (intro W hW; have e0 := gqcell hW m12 (.inr (by first | exact Nat.le_refl _ | exact HGK.out)); have e1 := gqcell hW k0 (.inr (by first | exact Nat.le_refl _ | exact HGK.out)); have e2 := gqcell hW k1 (.inr (by first | exact Nat.le_refl _ | exact HGK.out)); have e3 := gqcell hW o9 (.inr (by first | exact Nat.le_refl _ | exact HGK.out)); clear hW; go_simp; try rfl)
  simp only [ly]
  refine tkI 4 47 ?v39 rfl rfl hS0 ?hy39 ?_
  case hy39 => (intro W hW; have e0 := gqcell hW m12 (.inr (by first | exact Nat.le_refl _ | exact HGK.out)); have e1 := gqcell hW k0 (.inr (by first | exact Nat.le_refl _ | exact HGK.out)); have e2 := gqcell hW k1 (.inr (by first | exact Nat.le_refl _ | exact HGK.out)); have e3 := gqcell hW o9 (.inr (by first | exact Nat.le_refl _ | exact HGK.out)); clear hW; go_simp; try rfl)
  simp only [ly]
  refine tkJ 5 48 hS0 ?_; simp only [ly]
  refine tkJ 6 49 hS0 ?_; simp only [ly]
  refine tkJ 7 50 hS0 ?_; simp only [ly]
  refine tkI 8 51 ?v43 rfl rfl hS0 ?hy43 ?_
  case hy43 => (intro W hW; have e0 := gqcell hW m12 (.inr (by first | exact Nat.le_refl _ | exact HGK.out)); have e1 := gqcell hW k0 (.inr (by first | exact Nat.le_refl _ | exact HGK.out)); have e2 := gqcell hW k1 (.inr (by first | exact Nat.le_refl _ | exact HGK.out)); have e3 := gqcell hW o9 (.inr (by first | exact Nat.le_refl _ | exact HGK.out)); clear hW; go_simp; try rfl)
  simp only [ly]
  refine wpAnyH_ready (rs := [9]) (by kernel_rfl) (by simp) ?_
  refine AllReadyH.cons rfl (fun K hK => ?_) AllReadyH.nil
  refine wpo_thing _ _ _ _ rfl rfl (LMp.keep HLM.out rfl) (by unfold maxLen; omega) rfl rfl HWS.out HWO.out HWP.out ?_
  intro w5 hn5 hg5
  have HN5 := hide hn5
  have HG5 := hide hg5
  clear hn5 hg5
  change K (Act.put _ none _) _
  refine hK.out _ _ ?hs44 (fun hS1 => ?_)
  case hs44 => exact GQ.put hS0 (by omega) (by omega) HG5.out
  clear hK K
  refine wpAnyH_done (by kernel_rfl) ?_ _
  have HQ := hide hS1
  go_wp2
  go_ret
  exact ⟨by rw [HR.out]; rfl, (GQ.below 3 D HB3.out).trans ((GQ.below 3 D HB4.out).trans HQ.out), fun _ => SN.las (HS4.out.below ((Below.refl u4.heap.size u4).drew)) HN5.out HG5.out⟩
end Go.Proofs.YtomppblgalepjaaGreatDoor

