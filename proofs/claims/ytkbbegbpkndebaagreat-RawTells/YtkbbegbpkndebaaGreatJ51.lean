/- Texts of this claim, joined: HQ5, HQ6. -/
import Derived.Test.YtkbbegbpkndebaaGreatJ41
import Derived.Test.YtkbbegbpkndebaaGreatJ49
import Derived.Test.YtkbbegbpkndebaaGreatJ50
/- fits and Fits of layer 13 (the program). -/
namespace Go.Proofs.YtkbbegbpkndebaaGreat
open Go.RowKit Go.Lib
set_option linter.unusedVariables false
theorem fit_sets {k : Kd} {x : Eff} (h : x.1 = 1 ∨ x.1 = 2) : fitF k x = decide (x.2.1 < (k.1.length : Int)) := by unfold fitF; rw [if_pos h]
theorem fit_regs {k : Kd} {x : Eff} (h : x.1 = 6) : fitF k x = decide (x.2.1 < k.2.2) := by unfold fitF; rw [if_neg (by omega), if_pos h]
theorem fit_ups {k : Kd} {x : Eff} (h : x.1 = 3 ∨ x.1 = 4) : fitF k x = decide (x.2.1 < (k.2.1.length : Int)) := by unfold fitF; rw [if_neg (by omega), if_neg (by omega), decide_eq_true (show x.1 ≠ 5 by omega), Bool.true_or, Bool.and_true]
theorem fit_movs {k : Kd} {x : Eff} (h : x.1 = 5) : fitF k x = (decide (x.2.1 < (k.2.1.length : Int)) && (k.2.1.getD x.2.1.toNat (false, 0)).1) := by unfold fitF; rw [if_neg (by omega), if_neg (by omega), decide_eq_false (show ¬ x.1 ≠ 5 by omega), Bool.false_or]
set_option maxHeartbeats 4000000 in
theorem fits13 (ps : Option Addr) (ns cs : Nat) (pc : Option Addr) (nc cc : Nat) (g : Int) (k : Kd) (kx : Int) (j : Nat) (ky : List Int) (xn xt : Int) (wd : List Int) (w : World) (hg : k.2.2 = g) (hK : KM w ps ns cs pc nc cc k) (hk : 1 ≤ kx ∧ kx ≤ 6) : Calls Tryz.prog 59 #[.agg #[.slice ps ns cs, .slice pc nc cc, .int .i64 g], .agg #[.int .i64 kx, .int .i64 (j : Int), .string (strOfNums ky), .int .i64 xn, .int .i64 xt, .string (strOfNums wd)]] w fun e w' => e = .returned (.bool (fitF k (kx, (j : Int), ky, xn, xt, wd))) ∧ Below w.heap.size w w' := by
 rcases (by omega : (kx = 1 ∨ kx = 2) ∨ (kx = 3 ∨ kx = 4) ∨ kx = 5 ∨ kx = 6) with h | h | h | h
 ·have HE : Hid (decide (j < ns) = fitF k (kx, (j : Int), ky, xn, xt, wd)) := by unfold Hid; rw [fit_sets h, hK.s.1, decide_eq_decide]; simp only; omega
  rcases h with rfl | rfl
  ·skip
   skip
   generalize strOfNums ky = sk at *
   generalize strOfNums wd = sw at *
   have HB : Hid (Below w.heap.size w ((w.alloc (.cells #[.slice ps ns cs, .slice pc nc cc, .int .i64 g] 25)).alloc (.cells #[.int .i64 1, .int .i64 (j : Int), .string sk, .int .i64 xn, .int .i64 xt, .string sw] 82))) := bel2 w _ _
   clear hK
   go_enter Tryz.func59, Tryz.ntmps59
   go_wp2
   go_ret
   exact ⟨retB HE.out, HB.out⟩
  ·skip
   skip
   generalize strOfNums ky = sk at *
   generalize strOfNums wd = sw at *
   have HB : Hid (Below w.heap.size w ((w.alloc (.cells #[.slice ps ns cs, .slice pc nc cc, .int .i64 g] 25)).alloc (.cells #[.int .i64 2, .int .i64 (j : Int), .string sk, .int .i64 xn, .int .i64 xt, .string sw] 82))) := bel2 w _ _
   clear hK
   go_enter Tryz.func59, Tryz.ntmps59
   go_wp2
   go_ret
   exact ⟨retB HE.out, HB.out⟩
 ·have HE : Hid (decide (j < nc) = fitF k (kx, (j : Int), ky, xn, xt, wd)) := by unfold Hid; rw [fit_ups h, hK.c.1, decide_eq_decide]; simp only; omega
  rcases h with rfl | rfl
  ·skip
   skip
   generalize strOfNums ky = sk at *
   generalize strOfNums wd = sw at *
   have HB : Hid (Below w.heap.size w ((w.alloc (.cells #[.slice ps ns cs, .slice pc nc cc, .int .i64 g] 25)).alloc (.cells #[.int .i64 3, .int .i64 (j : Int), .string sk, .int .i64 xn, .int .i64 xt, .string sw] 82))) := bel2 w _ _
   clear hK
   go_enter Tryz.func59, Tryz.ntmps59
   go_wp2
   go_ret
   exact ⟨retB HE.out, HB.out⟩
  ·skip
   skip
   generalize strOfNums ky = sk at *
   generalize strOfNums wd = sw at *
   have HB : Hid (Below w.heap.size w ((w.alloc (.cells #[.slice ps ns cs, .slice pc nc cc, .int .i64 g] 25)).alloc (.cells #[.int .i64 4, .int .i64 (j : Int), .string sk, .int .i64 xn, .int .i64 xt, .string sw] 82))) := bel2 w _ _
   clear hK
   go_enter Tryz.func59, Tryz.ntmps59
   go_wp2
   go_ret
   exact ⟨retB HE.out, HB.out⟩
 ·subst h
  have hq : fitF k (5, (j : Int), ky, xn, xt, wd) = (decide ((j : Int) < (nc : Int)) && (k.2.1.getD j (false, 0)).1) := by rw [fit_movs rfl, hK.c.1]; rfl
  by_cases hj : j < nc
  ·obtain ⟨bc, oc, rfl⟩ := rs_addr hK.c (by omega)
   obtain ⟨is, fat, hkf, y0, _⟩ := floor_at hK.c j hj
   have HE : Hid (is = fitF k (5, (j : Int), ky, xn, xt, wd)) := by
    unfold Hid
    rw [hq, decide_eq_true (show (j : Int) < (nc : Int) by omega), List.getD_eq_getElem?_getD, hkf]
    rfl
   have hj0 : (0 : Int) ≤ (j : Int) := by omega
   have hj1 : (j : Int) < (nc : Int) := by omega
   have hj2 : decide ((j : Int) < (nc : Int)) = true := decide_eq_true hj1
   have y1 := bcell (bel2 w (.cells #[.slice ps ns cs, .slice (some ⟨bc, oc, none⟩) nc cc, .int .i64 g] 25) (.cells #[.int .i64 5, .int .i64 (j : Int), .string (strOfNums ky), .int .i64 xn, .int .i64 xt, .string (strOfNums wd)] 82)) y0
   clear hkf y0 hq
   skip
   generalize strOfNums ky = sk at *
   generalize strOfNums wd = sw at *
   have HB : Hid (Below w.heap.size w ((w.alloc (.cells #[.slice ps ns cs, .slice (some ⟨bc, oc, none⟩) nc cc, .int .i64 g] 25)).alloc (.cells #[.int .i64 5, .int .i64 (j : Int), .string sk, .int .i64 xn, .int .i64 xt, .string sw] 82))) := bel2 w _ _
   clear hK
   go_enter Tryz.func59, Tryz.ntmps59
   go_wp2
   go_ret
   exact ⟨retB HE.out, HB.out⟩
  ·have HE : Hid (false = fitF k (5, (j : Int), ky, xn, xt, wd)) := by
    unfold Hid
    rw [hq, decide_eq_false (show ¬ (j : Int) < (nc : Int) by omega), Bool.false_and]
   have hj1 : ¬ (j : Int) < (nc : Int) := by omega
   have hj2 : decide ((j : Int) < (nc : Int)) = false := decide_eq_false hj1
   clear hq
   skip
   generalize strOfNums ky = sk at *
   generalize strOfNums wd = sw at *
   have HB : Hid (Below w.heap.size w ((w.alloc (.cells #[.slice ps ns cs, .slice pc nc cc, .int .i64 g] 25)).alloc (.cells #[.int .i64 5, .int .i64 (j : Int), .string sk, .int .i64 xn, .int .i64 xt, .string sw] 82))) := bel2 w _ _
   clear hK
   go_enter Tryz.func59, Tryz.ntmps59
   go_wp2
   go_ret
   exact ⟨retB HE.out, HB.out⟩
 ·have HE : Hid (decide ((j : Int) < g) = fitF k (kx, (j : Int), ky, xn, xt, wd)) := by unfold Hid; rw [fit_regs h, hg]
  subst h
  skip
  generalize strOfNums ky = sk at *
  generalize strOfNums wd = sw at *
  have HB : Hid (Below w.heap.size w ((w.alloc (.cells #[.slice ps ns cs, .slice pc nc cc, .int .i64 g] 25)).alloc (.cells #[.int .i64 6, .int .i64 (j : Int), .string sk, .int .i64 xn, .int .i64 xt, .string sw] 82))) := bel2 w _ _
  clear hK
  go_enter Tryz.func59, Tryz.ntmps59
  go_wp2
  go_ret
  exact ⟨retB HE.out, HB.out⟩
set_option maxHeartbeats 4000000 in
theorem fitsC13 (gK : Nat) (ps : Option Addr) (ns cs : Nat) (pc : Option Addr) (nc cc : Nat) (g : Int) (k : Kd) (kx : Int) (j : Nat) (ky : List Int) (xn xt : Int) (wd : List Int) (w : World) (hX : BX w gK #[.slice ps ns cs, .slice pc nc cc, .int .i64 g] 25) (hg : k.2.2 = g) (hK : KM w ps ns cs pc nc cc k) (hk : 1 ≤ kx ∧ kx ≤ 6) : Calls Tryz.prog 58 #[.agg #[.int .i64 kx, .int .i64 (j : Int), .string (strOfNums ky), .int .i64 xn, .int .i64 xt, .string (strOfNums wd)], .pointer (some ⟨gK, 0, none⟩)] w fun e w' => e = .returned (.bool (!fitF k (kx, (j : Int), ky, xn, xt, wd))) ∧ Below w.heap.size w w' := by
 have HB := hide (bel1 w (.cells #[.int .i64 kx, .int .i64 (j : Int), .string (strOfNums ky), .int .i64 xn, .int .i64 xt, .string (strOfNums wd)] 82))
 have HF := hide (fits13 ps ns cs pc nc cc g k kx j ky xn xt wd _ hg (hK.below HB.out) hk)
 have x0 := (hX.below HB.out).cell 0 _ rfl
 have x1 := (hX.below HB.out).cell 1 _ rfl
 have x2 := (hX.below HB.out).cell 2 _ rfl
 obtain ⟨b, hb⟩ : ∃ b, fitF k (kx, (j : Int), ky, xn, xt, wd) = b := ⟨_, rfl⟩
 have HBB := hide hb
 rw [hb]
 clear hX hK hb
 generalize strOfNums ky = sk at *
 generalize strOfNums wd = sw at *
 go_enter Tryz.func58, Tryz.ntmps58
 go_wp2_with (go_at_call 59; refine HF.out.mono ?_; rintro e w1 ⟨rfl, hb⟩; rw [HBB.out]; replace HB := hide (bel_next HB.out hb); clear hb)
 go_ret
 exact ⟨rfl, HB.out⟩
theorem all_dropF {α : Type} {l : List α} {i : Nat} {x : α} (p : α → Bool) (h : l[i]? = some x) : (l.drop i).all p = (p x && (l.drop (i + 1)).all p) := by
 obtain ⟨hk, rfl⟩ := List.getElem?_eq_some_iff.1 h
 rw [List.drop_eq_getElem_cons hk, List.all_cons]
set_option maxHeartbeats 4000000 in
theorem idxF13 (gK : Nat) (ps : Option Addr) (ns cs : Nat) (pc : Option Addr) (nc cc : Nat) (g : Int) (k : Kd) (pe : Option Addr) (ne ce : Nat) (l : List Eff) (w : World) (hX : BX w gK #[.slice ps ns cs, .slice pc nc cc, .int .i64 g] 25) (hg : k.2.2 = g) (hK : KM w ps ns cs pc nc cc k) (hE : ES w pe ne l) (hm : ∀ y ∈ l, mayF y = true) : Calls Tryz.prog 130 #[.slice pe ne ce, .func (.func 58) #[] #[.pointer (some ⟨gK, 0, none⟩)]] w fun e w' => ∃ z : Int, e = .returned (.int .i64 z) ∧ Below w.heap.size w w' ∧ decide (0 ≤ z) = !l.all (fitF k) := by
 have hmax := hE.1.2.1
 unfold maxLen at hmax
 have HLN := hide hE.1.1
 have HEN := hide hE
 have HXK := hide hX
 have HK := hide hK
 have HM := hide hm
 clear hX hK hE hm
 go_enter Tryz.func130, Tryz.ntmps130
 go_wp2
 go_loopw [8] (fun v wr => ∃ i : Nat, i ≤ ne ∧ v = .int .i64 i ∧ Hid (Below w.heap.size w wr) ∧ Hid (l.all (fitF k) = (l.drop i).all (fitF k))) (fun v _ => ne - (intOf v).toNat)
 case atStart => exact ⟨0, by omega, rfl, Below.refl _ _, by unfold Hid; rw [List.drop_zero]⟩
 case round =>
  obtain ⟨i, hi, rfl, HB, HA⟩ := hrel
  by_cases hlt : i < ne
  ·obtain ⟨x, hx⟩ : ∃ x, l[i]? = some x := ⟨_, List.getElem?_eq_getElem (by rw [HLN.out]; exact hlt)⟩
   rcases HEN.out.1.2.2 with h0 | ⟨bp, op, rfl, _⟩
   ·omega
   obtain ⟨c0, c1, c2, c3, c4, c5⟩ := HEN.out.at i x hx
   replace c0 := bcell HB.out c0
   replace c1 := bcell HB.out c1
   replace c2 := bcell HB.out c2
   replace c3 := bcell HB.out c3
   replace c4 := bcell HB.out c4
   replace c5 := bcell HB.out c5
   have hmf := HM.out x (List.mem_of_getElem? hx)
   have hst := all_dropF (fitF k) hx
   obtain ⟨kx, xo, ky, xn, xt, wd⟩ := x
   obtain ⟨j, rfl⟩ : ∃ j : Nat, xo = (j : Int) := ⟨xo.toNat, by have q := (mayF13.1 hmf).1; simp only at q; omega⟩
   have hkx : 1 ≤ kx ∧ kx ≤ 6 := by have q := (mayF13.1 hmf).2; unfold fits at q; rw [decide_eq_true_iff] at q; simp only at q; omega
   simp only at c0 c1 c2 c3 c4 c5
   have hi0 : (0 : Int) ≤ (i : Int) := by omega
   have hi1 : (i : Int) < (ne : Int) := by omega
   have HF := hide (fitsC13 gK ps ns cs pc nc cc g k kx j ky xn xt wd wr (HXK.out.below HB.out) hg (HK.out.below HB.out) hkx)
   rcases hb : fitF k (kx, (j : Int), ky, xn, xt, wd) with _ | _
   ·have HST : Hid (l.all (fitF k) = false) := by unfold Hid; rw [HA.out, hst, hb]; rfl
    have HBB := hide hb
    clear hst hb hx hmf HA
    generalize strOfNums ky = sk at *
    generalize strOfNums wd = sw at *
    go_wp2_with (go_at_call 58; refine HF.out.mono ?_; rintro e w1 ⟨rfl, hb⟩; rw [HBB.out]; simp only [Bool.not_false]; replace HB := hide (bel_next HB.out hb); clear hb)
    go_ret
    exact ⟨_, rfl, HB.out, (show decide ((0 : Int) ≤ (i : Int)) = _ from by rw [HST.out, decide_eq_true hi0]; rfl)⟩
   ·have HST : Hid (l.all (fitF k) = (l.drop (i + 1)).all (fitF k)) := by unfold Hid; rw [HA.out, hst, hb, Bool.true_and]
    have HBB := hide hb
    clear hst hb hx hmf HA
    generalize strOfNums ky = sk at *
    generalize strOfNums wd = sw at *
    go_wp2_with (go_at_call 58; refine HF.out.mono ?_; rintro e w1 ⟨rfl, hb⟩; rw [HBB.out]; simp only [Bool.not_true]; replace HB := hide (bel_next HB.out hb); clear hb)
    go_roundw
    case rel => exact ⟨i + 1, by omega, by go_num, HB, HST⟩
    case measure => simp [intOf]; omega
  ·obtain rfl : i = ne := by omega
   have HST : Hid (l.all (fitF k) = true) := by unfold Hid; rw [HA.out, List.drop_eq_nil_of_le (by rw [HLN.out]; exact Nat.le_refl _)]; rfl
   clear HA
   go_wp2
   go_ret
   exact ⟨_, rfl, HB.out, (by rw [HST.out]; rfl)⟩
set_option maxHeartbeats 2000000 in
theorem conF13 (gK : Nat) (ps : Option Addr) (ns cs : Nat) (pc : Option Addr) (nc cc : Nat) (g : Int) (k : Kd) (pe : Option Addr) (ne ce : Nat) (l : List Eff) (w : World) (hX : BX w gK #[.slice ps ns cs, .slice pc nc cc, .int .i64 g] 25) (hg : k.2.2 = g) (hK : KM w ps ns cs pc nc cc k) (hE : ES w pe ne l) (hm : ∀ y ∈ l, mayF y = true) : Calls Tryz.prog 57 #[.slice pe ne ce, .func (.func 58) #[] #[.pointer (some ⟨gK, 0, none⟩)]] w fun e w' => e = .returned (.bool (!l.all (fitF k))) ∧ Below w.heap.size w w' := by
 have HI := hide (idxF13 gK ps ns cs pc nc cc g k pe ne ce l w hX hg hK hE hm)
 clear hX hK hE hm
 go_enter Tryz.func57, Tryz.ntmps57
 go_wp2_with (go_at_call 130; refine HI.out.mono ?_; rintro e w1 ⟨z, rfl, hb, hz⟩; have HZ := hide hz; have HB := hide hb; clear hz hb)
 go_ret
 exact ⟨retB HZ.out, HB.out⟩
theorem mayE_effs {e : Evt} (h : mayE e = true) : (∀ y ∈ e.2.2, mayF y = true) ∧ 1 ≤ e.2.2.length ∧ e.2.2.length ≤ 16 := by
 unfold mayE at h
 rw [Bool.and_eq_true, Bool.and_eq_true, decide_eq_true_iff, List.all_eq_true] at h
 exact ⟨h.2, h.1.2⟩
set_option maxHeartbeats 4000000 in
theorem Fits13 (ps : Option Addr) (ns cs : Nat) (pc : Option Addr) (nc cc : Nat) (g : Int) (k : Kd) (er es : Int) (pa : Option Addr) (na ca : Nat) (pe : Option Addr) (ne ce : Nat) (c : List Int) (l : List Eff) (w : World) (hg : k.2.2 = g) (hK : KM w ps ns cs pc nc cc k) (hN : NS w pa na c) (hE : ES w pe ne l) : Calls Tryz.prog 17 #[.agg #[.slice ps ns cs, .slice pc nc cc, .int .i64 g], .agg #[.int .i64 er, .int .i64 es, .slice pa na ca, .slice pe ne ce]] w fun e w' => e = .returned (.bool (kindsB k && mayE ((er, es), c, l) && fitsW k ((er, es), c, l))) ∧ Below w.heap.size w w' := by
 have HK := hide hK
 have HNN := hide hN
 have HEN := hide hE
 rcases hkb : kindsB k with _ | _
 ·have HCK := hide (chkK_no hkb)
  have HR : Hid (false = (false && mayE ((er, es), c, l) && fitsW k ((er, es), c, l))) := by unfold Hid; simp
  clear hkb
  have HBK : Hid (BX ((w.alloc (.cells #[.slice ps ns cs, .slice pc nc cc, .int .i64 g] 25)).alloc (.cells #[.int .i64 er, .int .i64 es, .slice pa na ca, .slice pe ne ce] 38)) w.heap.size #[.slice ps ns cs, .slice pc nc cc, .int .i64 g] 25) := (BX.new w _ rfl _ _).alloc _
  have HBE : Hid (BX ((w.alloc (.cells #[.slice ps ns cs, .slice pc nc cc, .int .i64 g] 25)).alloc (.cells #[.int .i64 er, .int .i64 es, .slice pa na ca, .slice pe ne ce] 38)) (w.heap.size + 1) #[.int .i64 er, .int .i64 es, .slice pa na ca, .slice pe ne ce] 38) := BX.new (w.alloc (.cells #[.slice ps ns cs, .slice pc nc cc, .int .i64 g] 25)) _ (by simp) _ _
  have HB : Hid (Below w.heap.size w ((w.alloc (.cells #[.slice ps ns cs, .slice pc nc cc, .int .i64 g] 25)).alloc (.cells #[.int .i64 er, .int .i64 es, .slice pa na ca, .slice pe ne ce] 38))) := bel2 w _ _
  clear hK hE hN
  go_enter Tryz.func17, Tryz.ntmps17
  go_upto_region 1 with fail
  generalize hgb : w.heap.size = gK at HBK HBE ⊢
  clear hgb
  generalize ((w.alloc (.cells #[.slice ps ns cs, .slice pc nc cc, .int .i64 g] 25)).alloc (.cells #[.int .i64 er, .int .i64 es, .slice pa na ca, .slice pe ne ce] 38)) = u at *
  have a0 := HBK.out.cell 0 _ rfl
  have a1 := HBK.out.cell 1 _ rfl
  have a2 := HBK.out.cell 2 _ rfl
  have b0 := HBE.out.cell 0 _ rfl
  have b1 := HBE.out.cell 1 _ rfl
  have b2 := HBE.out.cell 2 _ rfl
  have b3 := HBE.out.cell 3 _ rfl
  go_wp2_with ((go_at_call 15; refine (CheckKinds13 _ _ _ _ _ _ k _ _ hg (HK.out.below HB.out)).mono ?_; rintro e w1 ⟨rfl, hb⟩; rw [HCK.out]; replace HB := hide (bel_next HB.out hb); replace HBK := hide (HBK.out.below hb); (try replace a0 := bcell hb a0); (try replace a1 := bcell hb a1); (try replace a2 := bcell hb a2); (try replace b0 := bcell hb b0); (try replace b1 := bcell hb b1); (try replace b2 := bcell hb b2); (try replace b3 := bcell hb b3); clear hb))
  go_ret
  exact ⟨retB HR.out, HB.out⟩
 ·have HCK := hide (chkK_yes hkb)
  rcases hme : mayE ((er, es), c, l) with _ | _
  ·have HCE : Hid (errB (mayE ((er, es), c, l)) = 1) := by unfold Hid errB; rw [hme]; rfl
   have HR : Hid (false = (true && false && fitsW k ((er, es), c, l))) := by unfold Hid; simp
   clear hkb hme
   have HBK : Hid (BX ((w.alloc (.cells #[.slice ps ns cs, .slice pc nc cc, .int .i64 g] 25)).alloc (.cells #[.int .i64 er, .int .i64 es, .slice pa na ca, .slice pe ne ce] 38)) w.heap.size #[.slice ps ns cs, .slice pc nc cc, .int .i64 g] 25) := (BX.new w _ rfl _ _).alloc _
   have HBE : Hid (BX ((w.alloc (.cells #[.slice ps ns cs, .slice pc nc cc, .int .i64 g] 25)).alloc (.cells #[.int .i64 er, .int .i64 es, .slice pa na ca, .slice pe ne ce] 38)) (w.heap.size + 1) #[.int .i64 er, .int .i64 es, .slice pa na ca, .slice pe ne ce] 38) := BX.new (w.alloc (.cells #[.slice ps ns cs, .slice pc nc cc, .int .i64 g] 25)) _ (by simp) _ _
   have HB : Hid (Below w.heap.size w ((w.alloc (.cells #[.slice ps ns cs, .slice pc nc cc, .int .i64 g] 25)).alloc (.cells #[.int .i64 er, .int .i64 es, .slice pa na ca, .slice pe ne ce] 38))) := bel2 w _ _
   clear hK hE hN
   go_enter Tryz.func17, Tryz.ntmps17
   go_upto_region 1 with fail
   generalize hgb : w.heap.size = gK at HBK HBE ⊢
   clear hgb
   generalize ((w.alloc (.cells #[.slice ps ns cs, .slice pc nc cc, .int .i64 g] 25)).alloc (.cells #[.int .i64 er, .int .i64 es, .slice pa na ca, .slice pe ne ce] 38)) = u at *
   have a0 := HBK.out.cell 0 _ rfl
   have a1 := HBK.out.cell 1 _ rfl
   have a2 := HBK.out.cell 2 _ rfl
   have b0 := HBE.out.cell 0 _ rfl
   have b1 := HBE.out.cell 1 _ rfl
   have b2 := HBE.out.cell 2 _ rfl
   have b3 := HBE.out.cell 3 _ rfl
   go_wp2_with (first | (go_at_call 15; refine (CheckKinds13 _ _ _ _ _ _ k _ _ hg (HK.out.below HB.out)).mono ?_; rintro e w1 ⟨rfl, hb⟩; rw [HCK.out]; replace HB := hide (bel_next HB.out hb); replace HBK := hide (HBK.out.below hb); (try replace a0 := bcell hb a0); (try replace a1 := bcell hb a1); (try replace a2 := bcell hb a2); (try replace b0 := bcell hb b0); (try replace b1 := bcell hb b1); (try replace b2 := bcell hb b2); (try replace b3 := bcell hb b3); clear hb) | (go_at_call 49; refine (CheckE_any er es pa na ca pe ne ce c l _ (HNN.out.below HB.out) (HEN.out.below HB.out)).mono ?_; rintro e w2 ⟨rfl, hb⟩; rw [HCE.out]; replace HB := hide (bel_next HB.out hb); replace HBK := hide (HBK.out.below hb); (try replace a0 := bcell hb a0); (try replace a1 := bcell hb a1); (try replace a2 := bcell hb a2); (try replace b0 := bcell hb b0); (try replace b1 := bcell hb b1); (try replace b2 := bcell hb b2); (try replace b3 := bcell hb b3); clear hb))
   go_ret
   exact ⟨retB HR.out, HB.out⟩
  ·have HCE : Hid (errB (mayE ((er, es), c, l)) = 0) := by unfold Hid errB; rw [hme]; rfl
   have HMF := hide (mayE_effs hme).1
   obtain ⟨b, hb⟩ : ∃ b, l.all (fitF k) = b := ⟨_, rfl⟩
   have HAL := hide hb
   have HR : Hid (b = (true && true && fitsW k ((er, es), c, l))) := by unfold Hid fitsW; rw [show (l.all (fitF k)) = b from hb]; simp
   clear hkb hme hb
   have HBK : Hid (BX ((w.alloc (.cells #[.slice ps ns cs, .slice pc nc cc, .int .i64 g] 25)).alloc (.cells #[.int .i64 er, .int .i64 es, .slice pa na ca, .slice pe ne ce] 38)) w.heap.size #[.slice ps ns cs, .slice pc nc cc, .int .i64 g] 25) := (BX.new w _ rfl _ _).alloc _
   have HBE : Hid (BX ((w.alloc (.cells #[.slice ps ns cs, .slice pc nc cc, .int .i64 g] 25)).alloc (.cells #[.int .i64 er, .int .i64 es, .slice pa na ca, .slice pe ne ce] 38)) (w.heap.size + 1) #[.int .i64 er, .int .i64 es, .slice pa na ca, .slice pe ne ce] 38) := BX.new (w.alloc (.cells #[.slice ps ns cs, .slice pc nc cc, .int .i64 g] 25)) _ (by simp) _ _
   have HB : Hid (Below w.heap.size w ((w.alloc (.cells #[.slice ps ns cs, .slice pc nc cc, .int .i64 g] 25)).alloc (.cells #[.int .i64 er, .int .i64 es, .slice pa na ca, .slice pe ne ce] 38))) := bel2 w _ _
   clear hK hE hN
   go_enter Tryz.func17, Tryz.ntmps17
   go_upto_region 1 with fail
   generalize hgb : w.heap.size = gK at HBK HBE ⊢
   clear hgb
   generalize ((w.alloc (.cells #[.slice ps ns cs, .slice pc nc cc, .int .i64 g] 25)).alloc (.cells #[.int .i64 er, .int .i64 es, .slice pa na ca, .slice pe ne ce] 38)) = u at *
   have a0 := HBK.out.cell 0 _ rfl
   have a1 := HBK.out.cell 1 _ rfl
   have a2 := HBK.out.cell 2 _ rfl
   have b0 := HBE.out.cell 0 _ rfl
   have b1 := HBE.out.cell 1 _ rfl
   have b2 := HBE.out.cell 2 _ rfl
   have b3 := HBE.out.cell 3 _ rfl
   go_wp2_with (first | (go_at_call 15; refine (CheckKinds13 _ _ _ _ _ _ k _ _ hg (HK.out.below HB.out)).mono ?_; rintro e w1 ⟨rfl, hb⟩; rw [HCK.out]; replace HB := hide (bel_next HB.out hb); replace HBK := hide (HBK.out.below hb); (try replace a0 := bcell hb a0); (try replace a1 := bcell hb a1); (try replace a2 := bcell hb a2); (try replace b0 := bcell hb b0); (try replace b1 := bcell hb b1); (try replace b2 := bcell hb b2); (try replace b3 := bcell hb b3); clear hb) | (go_at_call 49; refine (CheckE_any er es pa na ca pe ne ce c l _ (HNN.out.below HB.out) (HEN.out.below HB.out)).mono ?_; rintro e w2 ⟨rfl, hb⟩; rw [HCE.out]; replace HB := hide (bel_next HB.out hb); replace HBK := hide (HBK.out.below hb); (try replace a0 := bcell hb a0); (try replace a1 := bcell hb a1); (try replace a2 := bcell hb a2); (try replace b0 := bcell hb b0); (try replace b1 := bcell hb b1); (try replace b2 := bcell hb b2); (try replace b3 := bcell hb b3); clear hb) | (go_at_call 57; refine (conF13 gK ps ns cs pc nc cc g k pe ne ce l _ HBK.out hg (HK.out.below HB.out) (HEN.out.below HB.out) HMF.out).mono ?_; rintro e w3 ⟨rfl, hb⟩; rw [HAL.out]; replace HB := hide (bel_next HB.out hb); clear hb))
   go_ret
   exact ⟨retB HR.out, HB.out⟩
end Go.Proofs.YtkbbegbpkndebaaGreat

/- doAll and Apply of layer 13 (the program). -/
namespace Go.Proofs.YtkbbegbpkndebaaGreat
open Go.RowKit Go.Lib
set_option linter.unusedVariables false
def ST13 (N i ne : Nat) (k : Kd) (e : Evt) (R : Rw) (RS : Option Rw) (q1 : Option Addr) (n1 d1 : Nat) (q2 : Option Addr) (n2 d2 : Nat) (q3 : Option Addr) (n3 d3 : Nat) (q4 : Option Addr) (n4 d4 : Nat) (W : World) : Prop :=
 (i = 0 ∧ OO N W q1 n1 d1 q2 n2 d2 q3 n3 d3 q4 n4 d4 R ∧ MG k 0 R) ∨ (i = 1 ∧ OO N W q1 n1 d1 q2 n2 d2 q3 n3 d3 q4 n4 d4 (e.2.2.foldl (dropW k e) R) ∧ MG k (0 + ne) (e.2.2.foldl (dropW k e) R)) ∨ (i = 2 ∧ OO N W q1 n1 d1 q2 n2 d2 q3 n3 d3 q4 n4 d4 (e.2.2.foldl (addW k e) (e.2.2.foldl (dropW k e) R)) ∧ MG k (0 + ne + ne) (e.2.2.foldl (addW k e) (e.2.2.foldl (dropW k e) R))) ∨ (i = 3 ∧ ∃ v, RS = some v ∧ OO N W q1 n1 d1 q2 n2 d2 q3 n3 d3 q4 n4 d4 v)
theorem ntyFn : NTy 154 := by unfold NTy; decide
theorem ntyR : NTy 31 := by unfold NTy; decide
theorem mayE_head {e : Evt} (h : mayE e = true) : mayD e.1 = true ∧ mayC e.2.1 = true := by
 unfold mayE headB plainB at h
 simp only [Bool.and_eq_true] at h
 exact ⟨h.1.1.1.1, h.1.1.1.2.1⟩
end Go.Proofs.YtkbbegbpkndebaaGreat

