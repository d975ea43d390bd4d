/- Texts of this claim, joined: OU. -/
import Derived.Test.YtomppblgalepjaaGreatDoorJ19
import Derived.Test.YtomppblgalepjaaGreatDoorJ35
import Derived.Test.YtomppblgalepjaaGreatDoorJ44
/- The program's builder at its start: the numbers of all things that lines name (layer 16). -/
namespace Go.Proofs.YtomppblgalepjaaGreatDoor
open Go.RowKit Go.Lib
set_option linter.unusedVariables false
abbrev Nb16 := (Int → ByteArray → Option Int) × Int × Int × Int
def nbS (s : Nb16) (d : Dc) : Nb16 :=
 if d.1 = 1 then (setM16 s.1 1 d.2.2.1 s.2.1, s.2.1 + 1, s.2.2.1, s.2.2.2)
 else if d.1 = 2 then (setM16 s.1 2 d.2.2.1 s.2.2.1, s.2.1, s.2.2.1 + 1, s.2.2.2)
 else if d.1 = 3 then (setM16 s.1 3 d.2.2.1 s.2.2.2, s.2.1, s.2.2.1, s.2.2.2 + 1)
 else s
def nbF (l : List Dc) : Nb16 := l.foldl nbS ((fun _ _ => none), 0, 0, 0)
theorem nbF_snoc {l : List Dc} {i : Nat} {d : Dc} (h : l[i]? = some d) : nbF (l.take (i + 1)) = nbS (nbF (l.take i)) d := by
 unfold nbF
 rw [List.take_add_one, h, Option.toList_some, List.foldl_append]
 rfl
def NbR (i : Nat) (s : Nb16) : Prop := (0 ≤ s.2.1 ∧ s.2.1 ≤ i) ∧ (0 ≤ s.2.2.1 ∧ s.2.2.1 ≤ i) ∧ (0 ≤ s.2.2.2 ∧ s.2.2.2 ≤ i)
theorem NbR.step {i : Nat} {s : Nb16} (h : NbR i s) (d : Dc) : NbR (i + 1) (nbS s d) := by
 unfold NbR nbS at *
 split
 ·simp only; omega
 ·split
  ·simp only; omega
  ·split
   ·simp only; omega
   ·omega
theorem wpo_label {o : Oper} {a : Act} {K : Act → World → Prop} {Q : Exit → Act → World → Prop} (w : World) (m x v : Operand) (hop : o.op = Op.mapUpdate 48 m x v) {b k : Nat} {f : Int → ByteArray → Option Int} {s z : Int} {nm : ByteArray} (hm : a.eval m = .map (some b)) (h : MMp w b k f) (hk : k < maxLen) (hx : a.eval x = .agg #[.int .i64 s, .string nm]) (hv : a.eval v = .int .i64 z) (hs : (Lit.int .i64 s).wf = true) (hn : nm.size ≤ maxLen) (hz : (Lit.int .i64 z).wf = true)
  (hK : ∀ w', MMp w' b (k + 1) (setM16 f s nm z) → w.grownBy w' (some b) → K (a.put o.dst undef) w') : Oper.wp Tryz.prog o a w K Q := by
 obtain ⟨w', hrun, r1, r2⟩ := h.put hk hs hn hz
 unfold Oper.wp
 simp [execOp, hop, hm, hx, hv, hrun, Result.andThen]
 exact hK w' r1 r2
def NbP (w : World) (l : List Dc) (e : Ending) (w' : World) : Prop := ∃ gb D M, e = .returned (.pointer (some ⟨gb, 0, none⟩)) ∧ Below w.heap.size w w' ∧ BD w.heap.size w' gb D M (nbF l).2 0 ((0, 0, 0, 0, 0), [], [], fun _ _ => 0) (nbF l).1 (.slice none 0 0) (.slice none 0 0) (.slice none 0 0) (.slice none 0 0) (.slice none 0 0) zeroR
theorem MMp.mono' {w : World} {b k k' : Nat} {f : Int → ByteArray → Option Int} (h : MMp w b k f) (hk : k ≤ k') : MMp w b k' f := by
 obtain ⟨n, D, h1, h2⟩ := h
 exact ⟨n, D, Nat.le_trans h1 hk, h2⟩
theorem NbR.imp_succ {i : Nat} {s : Nb16} (h : NbR i s) : NbR (i + 1) s := by unfold NbR at *; omega
set_option maxHeartbeats 8000000 in
set_option maxRecDepth 8000 in
theorem newBuilder16 (a : Option Addr) (n c : Nat) (l : List Dc) (w : World) (hA : SF 7 RDc w a n l) (hn : n ≤ 1000) (hs : ∀ d ∈ l, d.2.2.1.size ≤ maxLen) :
  Calls Tryz.prog 15 #[.slice a n c] w (NbP w l) := by
 have HA := hide hA
 have HLN := hide hA.len
 have HNM := hide hs
 have hmm := @run_makeMap Tryz.prog
 have HM0 := hide (MMp.made w)
 have s1 : (w.alloc (.map #[] 0)).heap.size = w.heap.size + 1 := by simp
 have HH0 : Hid (BX ((w.alloc (.map #[] 0)).alloc (.cells #[.int .i64 0, .int .i64 0, .int .i64 0, .int .i64 0] 68)) (w.heap.size + 1) #[.int .i64 0, .int .i64 0, .int .i64 0, .int .i64 0] 68) := BX.new (w.alloc (.map #[] 0)) _ s1.symm _ _
 have HB0 : Hid (Below w.heap.size w ((w.alloc (.map #[] 0)).alloc (.cells #[.int .i64 0, .int .i64 0, .int .i64 0, .int .i64 0] 68))) := ((Below.refl _ w).alloc (Nat.le_refl _) _).alloc (by rw [s1]; omega) _
 have HM1 : Hid (MMp ((w.alloc (.map #[] 0)).alloc (.cells #[.int .i64 0, .int .i64 0, .int .i64 0, .int .i64 0] 68)) w.heap.size 0 (fun _ _ => none)) := HM0.out.keep ((bel1 (w.alloc (.map #[] 0)) _).block _ (by rw [s1]; omega))
 clear hA hs HM0 s1
 go_enter Tryz.func15, Tryz.ntmps15
 go_wp2
 go_loopw [10] (fun v wr => ∃ (i : Nat) (f : Int → ByteArray → Option Int) (q1 q2 q3 : Int), i ≤ n ∧ v = .int .i64 i ∧ Hid (nbF (l.take i) = (f, q1, q2, q3)) ∧ Hid (Below w.heap.size w wr) ∧ Hid (MMp wr w.heap.size i f) ∧ Hid (BX wr (w.heap.size + 1) #[.int .i64 0, .int .i64 q1, .int .i64 q2, .int .i64 q3] 68) ∧ Hid (NbR i (f, q1, q2, q3))) (fun v _ => n - (RowKit.intOf v).toNat)
 case atStart => exact ⟨0, _, 0, 0, 0, by omega, rfl, rfl, HB0, HM1, HH0, by unfold Hid NbR; simp⟩
 case round =>
  clear HB0 HM1 HH0
  obtain ⟨i, f, q1, q2, q3, hi, rfl, HF, HB, HM, HH, HNR⟩ := hrel
  by_cases hlt : i < n
  ·obtain ⟨bp, off, ha⟩ := HA.out.addr (show 0 < n by omega)
   subst ha
   obtain ⟨⟨kd, st, nm, ot, dn, ds, ln⟩, p, co, hx, _, _, s0, s1, s2, s3, s4, s5, s6⟩ := SF.dc HA.out i hlt
   simp only at s0 s1 s2 s3 s4 s5 s6
   generalize ds.length = m at s5
   replace s0 := bcell HB.out s0
   replace s1 := bcell HB.out s1
   replace s2 := bcell HB.out s2
   replace s3 := bcell HB.out s3
   replace s4 := bcell HB.out s4
   replace s5 := bcell HB.out s5
   replace s6 := bcell HB.out s6
   have hi0 : (0 : Int) ≤ (i : Int) := by omega
   have hi1 : (i : Int) < (n : Int) := by omega
   have HNZ2 : Hid (nm.size ≤ maxLen) := HNM.out _ (List.mem_of_getElem? hx)
   have hszr : w.heap.size + 1 < wr.heap.size := HH.out.size
   by_cases hk1 : kd = 1
   ·subst hk1
    have HMO : Hid (mostB 1 = 6) := rfl
    have HS2 : Hid (nbF (l.take (i + 1)) = (setM16 f 1 nm q1, q1 + 1, q2, q3)) := by unfold Hid; rw [nbF_snoc hx, HF.out]; rfl
    have HNR2 : Hid (NbR (i + 1) (setM16 f 1 nm q1, q1 + 1, q2, q3)) := by unfold Hid NbR; have q := HNR.out; unfold NbR at q; simp only at q ⊢; omega
    have hnr := HNR.out
    have HWK : Hid ((Lit.int .i64 1).wf = true) := by unfold Hid; decide
    have HWQ : Hid ((Lit.int .i64 q1).wf = true) := by unfold NbR at hnr; simp only at hnr; exact WalkArith.wf_i64 (by omega)
    have hwr : IntKind.i64.wrap (q1 + 1) = q1 + 1 := by unfold NbR at hnr; simp only at hnr; unfold IntKind.wrap IntKind.bits; simp [IntKind.signed]; omega
    clear hx hnr
    have hq := bel1 wr (.cells #[.int .i64 1, .bool st, .string nm, .string ot, .int .i64 dn, .slice p m co, .int .i64 ln] 38)
    have HXD : Hid (BX (wr.alloc (.cells #[.int .i64 1, .bool st, .string nm, .string ot, .int .i64 dn, .slice p m co, .int .i64 ln] 38)) wr.heap.size #[.int .i64 1, .bool st, .string nm, .string ot, .int .i64 dn, .slice p m co, .int .i64 ln] 38) := BX.new wr _ rfl _ _
    replace HH := hide (HH.out.below hq)
    replace HM := hide (MMp.keep HM.out (hq.block _ HM.out.lt))
    replace HB := hide (bel_next HB.out hq)
    have hsz2 := HB.out.size
    have HGD : Hid (w.heap.size + 1 < wr.heap.size) := hszr
    clear hq
    go_upto_region 6 with fail
    generalize wr.alloc (.cells #[.int .i64 1, .bool st, .string nm, .string ot, .int .i64 dn, .slice p m co, .int .i64 ln] 38) = u at *
    obtain ⟨gd, hgd⟩ : ∃ gd, wr.heap.size = gd := ⟨_, rfl⟩
    rw [hgd] at HXD HGD ⊢
    clear hgd hsz2 hszr
    have d0 := HXD.out.cell 0 _ rfl
    have d1 := HXD.out.cell 1 _ rfl
    have d2 := HXD.out.cell 2 _ rfl
    have d3 := HXD.out.cell 3 _ rfl
    have d4 := HXD.out.cell 4 _ rfl
    have d5 := HXD.out.cell 5 _ rfl
    have d6 := HXD.out.cell 6 _ rfl
    have h0 := HH.out.cell 0 _ rfl
    have h1 := HH.out.cell 1 _ rfl
    have h2 := HH.out.cell 2 _ rfl
    have h3 := HH.out.cell 3 _ rfl
    go_upto_region 7 with (go_at_call 36; refine (most16 _ _).mono ?_; rintro e w1 ⟨rfl, hw9⟩; have hw8 := hw9.symm; subst hw8; clear hw9; rw [HMO.out])
    refine wp_region_held_drew (S := fun W => GQ 1 (w.heap.size) u W) (by kernel_rfl) ((GQ.refl 1 _ u).drew) (fun hS0 => ?_)
    refine tkJ 0 18 hS0 ?_; simp only [ly]
    refine tkJ 1 19 hS0 ?_; simp only [ly]
    refine tkI 2 20 ?v3 rfl rfl hS0 ?hy3 ?_
    case hy3 => (intro W hW; have e0 := gqcell hW d0 (.inr (by first | exact Nat.le_refl _ | exact Nat.le_of_lt HGD.out)); have e1 := gqcell hW d2 (.inr (by first | exact Nat.le_refl _ | exact Nat.le_of_lt HGD.out)); have e2 := gqcell hW h1 (.inr (by first | exact Nat.le_refl _ | exact Nat.le_of_lt HGD.out)); clear hW; go_simp; try rfl)
    simp only [ly]
    refine tkJ 3 21 hS0 ?_; simp only [ly]
    refine tkI 4 22 ?v5 rfl rfl hS0 ?hy5 ?_
    case hy5 => (intro W hW; have e0 := gqcell hW d0 (.inr (by first | exact Nat.le_refl _ | exact Nat.le_of_lt HGD.out)); have e1 := gqcell hW d2 (.inr (by first | exact Nat.le_refl _ | exact Nat.le_of_lt HGD.out)); have e2 := gqcell hW h1 (.inr (by first | exact Nat.le_refl _ | exact Nat.le_of_lt HGD.out)); clear hW; go_simp; try rfl)
    simp only [ly]
    refine tkJ 5 23 hS0 ?_; simp only [ly]
    refine tkJ 6 24 hS0 ?_; simp only [ly]
    refine tkI 7 25 ?v8 rfl rfl hS0 ?hy8 ?_
    case hy8 => (intro W hW; have e0 := gqcell hW d0 (.inr (by first | exact Nat.le_refl _ | exact Nat.le_of_lt HGD.out)); have e1 := gqcell hW d2 (.inr (by first | exact Nat.le_refl _ | exact Nat.le_of_lt HGD.out)); have e2 := gqcell hW h1 (.inr (by first | exact Nat.le_refl _ | exact Nat.le_of_lt HGD.out)); clear hW; go_simp; try rfl)
    simp only [ly]
    refine tkJ 8 26 hS0 ?_; simp only [ly]
    refine tkI 9 27 ?v10 rfl rfl hS0 ?hy10 ?_
    case hy10 => (intro W hW; have e0 := gqcell hW d0 (.inr (by first | exact Nat.le_refl _ | exact Nat.le_of_lt HGD.out)); have e1 := gqcell hW d2 (.inr (by first | exact Nat.le_refl _ | exact Nat.le_of_lt HGD.out)); have e2 := gqcell hW h1 (.inr (by first | exact Nat.le_refl _ | exact Nat.le_of_lt HGD.out)); clear hW; go_simp; try rfl)
    simp only [ly]
    refine wpAnyH_ready (rs := [10]) (by kernel_rfl) (by simp) ?_
    refine AllReadyH.cons rfl (fun K hK => ?_) AllReadyH.nil
    refine wpo_label _ _ _ _ rfl rfl (MMp.keep HM.out rfl) (by unfold maxLen; omega) rfl rfl HWK.out HNZ2.out HWQ.out ?_
    intro w5 hm5 hg5
    have HM5 := hide hm5
    have HG5 := hide hg5
    clear hm5 hg5
    change K (Act.put _ none _) _
    refine hK.out _ _ ?hs11 (fun hS1 => ?_)
    case hs11 => exact GQ.put hS0 (Nat.le_refl _) (by omega) HG5.out
    clear hK K
    refine wpAnyH_done (by kernel_rfl) ?_ _
    have HQ := hide hS1
    replace HH := hide (HH.out.gq HQ.out (.inr (Nat.le_refl _)))
    have HB5 : Hid (Below w.heap.size w w5) := HB.out.trans ⟨HQ.out.2.2.1, HQ.out.2.2.2.1, HQ.out.2.2.2.2, HQ.out.1, fun g hg => HQ.out.2.1 g (Nat.lt_of_lt_of_le hg HB.out.size) (.inl hg)⟩
    replace d0 := gqcell HQ.out d0 (.inr (Nat.le_of_lt HGD.out))
    clear d1 d2 d3 d4 d5 d6 h0 h1 h2 h3
    have h0 := HH.out.cell 0 _ rfl
    have h1 := HH.out.cell 1 _ rfl
    have h2 := HH.out.cell 2 _ rfl
    have h3 := HH.out.cell 3 _ rfl
    have y1 := HH.out.free 1
    go_wp2
    go_roundw
    case rel =>
     refine ⟨i + 1, _, (q1 + 1), q2, q3, by omega, by go_num, HS2.out, HB5.out.setCell (p := ⟨w.heap.size + 1, 1, none⟩) (Nat.le_succ _) _, ?_, HH.out.set 1 _, HNR2.out⟩
     exact HM5.out.keep (by simp [World.setCell, Array.getElem?_modify])
    case measure => simp [RowKit.intOf] <;> omega
   by_cases hk2 : kd = 2
   ·subst hk2
    have HMO : Hid (mostB 2 = 4) := rfl
    have HS2 : Hid (nbF (l.take (i + 1)) = (setM16 f 2 nm q2, q1, q2 + 1, q3)) := by unfold Hid; rw [nbF_snoc hx, HF.out]; rfl
    have HNR2 : Hid (NbR (i + 1) (setM16 f 2 nm q2, q1, q2 + 1, q3)) := by unfold Hid NbR; have q := HNR.out; unfold NbR at q; simp only at q ⊢; omega
    have hnr := HNR.out
    have HWK : Hid ((Lit.int .i64 2).wf = true) := by unfold Hid; decide
    have HWQ : Hid ((Lit.int .i64 q2).wf = true) := by unfold NbR at hnr; simp only at hnr; exact WalkArith.wf_i64 (by omega)
    have hwr : IntKind.i64.wrap (q2 + 1) = q2 + 1 := by unfold NbR at hnr; simp only at hnr; unfold IntKind.wrap IntKind.bits; simp [IntKind.signed]; omega
    clear hx hnr
    have hq := bel1 wr (.cells #[.int .i64 2, .bool st, .string nm, .string ot, .int .i64 dn, .slice p m co, .int .i64 ln] 38)
    have HXD : Hid (BX (wr.alloc (.cells #[.int .i64 2, .bool st, .string nm, .string ot, .int .i64 dn, .slice p m co, .int .i64 ln] 38)) wr.heap.size #[.int .i64 2, .bool st, .string nm, .string ot, .int .i64 dn, .slice p m co, .int .i64 ln] 38) := BX.new wr _ rfl _ _
    replace HH := hide (HH.out.below hq)
    replace HM := hide (MMp.keep HM.out (hq.block _ HM.out.lt))
    replace HB := hide (bel_next HB.out hq)
    have hsz2 := HB.out.size
    have HGD : Hid (w.heap.size + 1 < wr.heap.size) := hszr
    clear hq
    go_upto_region 6 with fail
    generalize wr.alloc (.cells #[.int .i64 2, .bool st, .string nm, .string ot, .int .i64 dn, .slice p m co, .int .i64 ln] 38) = u at *
    obtain ⟨gd, hgd⟩ : ∃ gd, wr.heap.size = gd := ⟨_, rfl⟩
    rw [hgd] at HXD HGD ⊢
    clear hgd hsz2 hszr
    have d0 := HXD.out.cell 0 _ rfl
    have d1 := HXD.out.cell 1 _ rfl
    have d2 := HXD.out.cell 2 _ rfl
    have d3 := HXD.out.cell 3 _ rfl
    have d4 := HXD.out.cell 4 _ rfl
    have d5 := HXD.out.cell 5 _ rfl
    have d6 := HXD.out.cell 6 _ rfl
    have h0 := HH.out.cell 0 _ rfl
    have h1 := HH.out.cell 1 _ rfl
    have h2 := HH.out.cell 2 _ rfl
    have h3 := HH.out.cell 3 _ rfl
    go_upto_region 7 with (go_at_call 36; refine (most16 _ _).mono ?_; rintro e w1 ⟨rfl, hw9⟩; have hw8 := hw9.symm; subst hw8; clear hw9; rw [HMO.out])
    refine wp_region_held_drew (S := fun W => GQ 1 (w.heap.size) u W) (by kernel_rfl) ((GQ.refl 1 _ u).drew) (fun hS0 => ?_)
    refine tkJ 0 18 hS0 ?_; simp only [ly]
    refine tkJ 1 19 hS0 ?_; simp only [ly]
    refine tkI 2 20 ?v14 rfl rfl hS0 ?hy14 ?_
    case hy14 => (intro W hW; have e0 := gqcell hW d0 (.inr (by first | exact Nat.le_refl _ | exact Nat.le_of_lt HGD.out)); have e1 := gqcell hW d2 (.inr (by first | exact Nat.le_refl _ | exact Nat.le_of_lt HGD.out)); have e2 := gqcell hW h2 (.inr (by first | exact Nat.le_refl _ | exact Nat.le_of_lt HGD.out)); clear hW; go_simp; try rfl)
    simp only [ly]
    refine tkJ 3 21 hS0 ?_; simp only [ly]
    refine tkI 4 22 ?v16 rfl rfl hS0 ?hy16 ?_
    case hy16 => (intro W hW; have e0 := gqcell hW d0 (.inr (by first | exact Nat.le_refl _ | exact Nat.le_of_lt HGD.out)); have e1 := gqcell hW d2 (.inr (by first | exact Nat.le_refl _ | exact Nat.le_of_lt HGD.out)); have e2 := gqcell hW h2 (.inr (by first | exact Nat.le_refl _ | exact Nat.le_of_lt HGD.out)); clear hW; go_simp; try rfl)
    simp only [ly]
    refine tkJ 5 23 hS0 ?_; simp only [ly]
    refine tkJ 6 24 hS0 ?_; simp only [ly]
    refine tkI 7 25 ?v19 rfl rfl hS0 ?hy19 ?_
    case hy19 => (intro W hW; have e0 := gqcell hW d0 (.inr (by first | exact Nat.le_refl _ | exact Nat.le_of_lt HGD.out)); have e1 := gqcell hW d2 (.inr (by first | exact Nat.le_refl _ | exact Nat.le_of_lt HGD.out)); have e2 := gqcell hW h2 (.inr (by first | exact Nat.le_refl _ | exact Nat.le_of_lt HGD.out)); clear hW; go_simp; try rfl)
    simp only [ly]
    refine tkJ 8 26 hS0 ?_; simp only [ly]
    refine tkI 9 27 ?v21 rfl rfl hS0 ?hy21 ?_
    case hy21 => (intro W hW; have e0 := gqcell hW d0 (.inr (by first | exact Nat.le_refl _ | exact Nat.le_of_lt HGD.out)); have e1 := gqcell hW d2 (.inr (by first | exact Nat.le_refl _ | exact Nat.le_of_lt HGD.out)); have e2 := gqcell hW h2 (.inr (by first | exact Nat.le_refl _ | exact Nat.le_of_lt HGD.out)); clear hW; go_simp; try rfl)
    simp only [ly]
    refine wpAnyH_ready (rs := [10]) (by kernel_rfl) (by simp) ?_
    refine AllReadyH.cons rfl (fun K hK => ?_) AllReadyH.nil
    refine wpo_label _ _ _ _ rfl rfl (MMp.keep HM.out rfl) (by unfold maxLen; omega) rfl rfl HWK.out HNZ2.out HWQ.out ?_
    intro w5 hm5 hg5
    have HM5 := hide hm5
    have HG5 := hide hg5
    clear hm5 hg5
    change K (Act.put _ none _) _
    refine hK.out _ _ ?hs22 (fun hS1 => ?_)
    case hs22 => exact GQ.put hS0 (Nat.le_refl _) (by omega) HG5.out
    clear hK K
    refine wpAnyH_done (by kernel_rfl) ?_ _
    have HQ := hide hS1
    replace HH := hide (HH.out.gq HQ.out (.inr (Nat.le_refl _)))
    have HB5 : Hid (Below w.heap.size w w5) := HB.out.trans ⟨HQ.out.2.2.1, HQ.out.2.2.2.1, HQ.out.2.2.2.2, HQ.out.1, fun g hg => HQ.out.2.1 g (Nat.lt_of_lt_of_le hg HB.out.size) (.inl hg)⟩
    replace d0 := gqcell HQ.out d0 (.inr (Nat.le_of_lt HGD.out))
    clear d1 d2 d3 d4 d5 d6 h0 h1 h2 h3
    have h0 := HH.out.cell 0 _ rfl
    have h1 := HH.out.cell 1 _ rfl
    have h2 := HH.out.cell 2 _ rfl
    have h3 := HH.out.cell 3 _ rfl
    have y2 := HH.out.free 2
    go_wp2
    go_roundw
    case rel =>
     refine ⟨i + 1, _, q1, (q2 + 1), q3, by omega, by go_num, HS2.out, HB5.out.setCell (p := ⟨w.heap.size + 1, 2, none⟩) (Nat.le_succ _) _, ?_, HH.out.set 2 _, HNR2.out⟩
     exact HM5.out.keep (by simp [World.setCell, Array.getElem?_modify])
    case measure => simp [RowKit.intOf] <;> omega
   by_cases hk3 : kd = 3
   ·subst hk3
    have HMO : Hid (mostB 3 = 3) := rfl
    have HS2 : Hid (nbF (l.take (i + 1)) = (setM16 f 3 nm q3, q1, q2, q3 + 1)) := by unfold Hid; rw [nbF_snoc hx, HF.out]; rfl
    have HNR2 : Hid (NbR (i + 1) (setM16 f 3 nm q3, q1, q2, q3 + 1)) := by unfold Hid NbR; have q := HNR.out; unfold NbR at q; simp only at q ⊢; omega
    have hnr := HNR.out
    have HWK : Hid ((Lit.int .i64 3).wf = true) := by unfold Hid; decide
    have HWQ : Hid ((Lit.int .i64 q3).wf = true) := by unfold NbR at hnr; simp only at hnr; exact WalkArith.wf_i64 (by omega)
    have hwr : IntKind.i64.wrap (q3 + 1) = q3 + 1 := by unfold NbR at hnr; simp only at hnr; unfold IntKind.wrap IntKind.bits; simp [IntKind.signed]; omega
    clear hx hnr
    have hq := bel1 wr (.cells #[.int .i64 3, .bool st, .string nm, .string ot, .int .i64 dn, .slice p m co, .int .i64 ln] 38)
    have HXD : Hid (BX (wr.alloc (.cells #[.int .i64 3, .bool st, .string nm, .string ot, .int .i64 dn, .slice p m co, .int .i64 ln] 38)) wr.heap.size #[.int .i64 3, .bool st, .string nm, .string ot, .int .i64 dn, .slice p m co, .int .i64 ln] 38) := BX.new wr _ rfl _ _
    replace HH := hide (HH.out.below hq)
    replace HM := hide (MMp.keep HM.out (hq.block _ HM.out.lt))
    replace HB := hide (bel_next HB.out hq)
    have hsz2 := HB.out.size
    have HGD : Hid (w.heap.size + 1 < wr.heap.size) := hszr
    clear hq
    go_upto_region 6 with fail
    generalize wr.alloc (.cells #[.int .i64 3, .bool st, .string nm, .string ot, .int .i64 dn, .slice p m co, .int .i64 ln] 38) = u at *
    obtain ⟨gd, hgd⟩ : ∃ gd, wr.heap.size = gd := ⟨_, rfl⟩
    rw [hgd] at HXD HGD ⊢
    clear hgd hsz2 hszr
    have d0 := HXD.out.cell 0 _ rfl
    have d1 := HXD.out.cell 1 _ rfl
    have d2 := HXD.out.cell 2 _ rfl
    have d3 := HXD.out.cell 3 _ rfl
    have d4 := HXD.out.cell 4 _ rfl
    have d5 := HXD.out.cell 5 _ rfl
    have d6 := HXD.out.cell 6 _ rfl
    have h0 := HH.out.cell 0 _ rfl
    have h1 := HH.out.cell 1 _ rfl
    have h2 := HH.out.cell 2 _ rfl
    have h3 := HH.out.cell 3 _ rfl
    go_upto_region 7 with (go_at_call 36; refine (most16 _ _).mono ?_; rintro e w1 ⟨rfl, hw9⟩; have hw8 := hw9.symm; subst hw8; clear hw9; rw [HMO.out])
    refine wp_region_held_drew (S := fun W => GQ 1 (w.heap.size) u W) (by kernel_rfl) ((GQ.refl 1 _ u).drew) (fun hS0 => ?_)
    refine tkJ 0 18 hS0 ?_; simp only [ly]
    refine tkJ 1 19 hS0 ?_; simp only [ly]
    refine tkI 2 20 ?v25 rfl rfl hS0 ?hy25 ?_
    case hy25 => (intro W hW; have e0 := gqcell hW d0 (.inr (by first | exact Nat.le_refl _ | exact Nat.le_of_lt HGD.out)); have e1 := gqcell hW d2 (.inr (by first | exact Nat.le_refl _ | exact Nat.le_of_lt HGD.out)); have e2 := gqcell hW h3 (.inr (by first | exact Nat.le_refl _ | exact Nat.le_of_lt HGD.out)); clear hW; go_simp; try rfl)
    simp only [ly]
    refine tkJ 3 21 hS0 ?_; simp only [ly]
    refine tkI 4 22 ?v27 rfl rfl hS0 ?hy27 ?_
    case hy27 => (intro W hW; have e0 := gqcell hW d0 (.inr (by first | exact Nat.le_refl _ | exact Nat.le_of_lt HGD.out)); have e1 := gqcell hW d2 (.inr (by first | exact Nat.le_refl _ | exact Nat.le_of_lt HGD.out)); have e2 := gqcell hW h3 (.inr (by first | exact Nat.le_refl _ | exact Nat.le_of_lt HGD.out)); clear hW; go_simp; try rfl)
    simp only [ly]
    refine tkJ 5 23 hS0 ?_; simp only [ly]
    refine tkJ 6 24 hS0 ?_; simp only [ly]
    refine tkI 7 25 ?v30 rfl rfl hS0 ?hy30 ?_
    case hy30 => (intro W hW; have e0 := gqcell hW d0 (.inr (by first | exact Nat.le_refl _ | exact Nat.le_of_lt HGD.out)); have e1 := gqcell hW d2 (.inr (by first | exact Nat.le_refl _ | exact Nat.le_of_lt HGD.out)); have e2 := gqcell hW h3 (.inr (by first | exact Nat.le_refl _ | exact Nat.le_of_lt HGD.out)); clear hW; go_simp; try rfl)
    simp only [ly]
    refine tkJ 8 26 hS0 ?_; simp only [ly]
    refine tkI 9 27 ?v32 rfl rfl hS0 ?hy32 ?_
    case hy32 => (intro W hW; have e0 := gqcell hW d0 (.inr (by first | exact Nat.le_refl _ | exact Nat.le_of_lt HGD.out)); have e1 := gqcell hW d2 (.inr (by first | exact Nat.le_refl _ | exact Nat.le_of_lt HGD.out)); have e2 := gqcell hW h3 (.inr (by first | exact Nat.le_refl _ | exact Nat.le_of_lt HGD.out)); clear hW; go_simp; try rfl)
    simp only [ly]
    refine wpAnyH_ready (rs := [10]) (by kernel_rfl) (by simp) ?_
    refine AllReadyH.cons rfl (fun K hK => ?_) AllReadyH.nil
    refine wpo_label _ _ _ _ rfl rfl (MMp.keep HM.out rfl) (by unfold maxLen; omega) rfl rfl HWK.out HNZ2.out HWQ.out ?_
    intro w5 hm5 hg5
    have HM5 := hide hm5
    have HG5 := hide hg5
    clear hm5 hg5
    change K (Act.put _ none _) _
    refine hK.out _ _ ?hs33 (fun hS1 => ?_)
    case hs33 => exact GQ.put hS0 (Nat.le_refl _) (by omega) HG5.out
    clear hK K
    refine wpAnyH_done (by kernel_rfl) ?_ _
    have HQ := hide hS1
    replace HH := hide (HH.out.gq HQ.out (.inr (Nat.le_refl _)))
    have HB5 : Hid (Below w.heap.size w w5) := HB.out.trans ⟨HQ.out.2.2.1, HQ.out.2.2.2.1, HQ.out.2.2.2.2, HQ.out.1, fun g hg => HQ.out.2.1 g (Nat.lt_of_lt_of_le hg HB.out.size) (.inl hg)⟩
    replace d0 := gqcell HQ.out d0 (.inr (Nat.le_of_lt HGD.out))
    clear d1 d2 d3 d4 d5 d6 h0 h1 h2 h3
    have h0 := HH.out.cell 0 _ rfl
    have h1 := HH.out.cell 1 _ rfl
    have h2 := HH.out.cell 2 _ rfl
    have h3 := HH.out.cell 3 _ rfl
    have y3 := HH.out.free 3
    go_wp2
    go_roundw
    case rel =>
     refine ⟨i + 1, _, q1, q2, (q3 + 1), by omega, by go_num, HS2.out, HB5.out.setCell (p := ⟨w.heap.size + 1, 3, none⟩) (Nat.le_succ _) _, ?_, HH.out.set 3 _, HNR2.out⟩
     exact HM5.out.keep (by simp [World.setCell, Array.getElem?_modify])
    case measure => simp [RowKit.intOf] <;> omega
   have HMO : Hid (mostB kd = 0) := by unfold Hid mostB; rw [if_neg hk1, if_neg hk2, if_neg hk3]
   have HS2 : Hid (nbF (l.take (i + 1)) = nbF (l.take i)) := by unfold Hid; rw [nbF_snoc hx]; unfold nbS; rw [if_neg hk1, if_neg hk2, if_neg hk3]
   clear hk1 hk2 hk3 hx
   have hq := bel1 wr (.cells #[.int .i64 kd, .bool st, .string nm, .string ot, .int .i64 dn, .slice p m co, .int .i64 ln] 38)
   have HXD : Hid (BX (wr.alloc (.cells #[.int .i64 kd, .bool st, .string nm, .string ot, .int .i64 dn, .slice p m co, .int .i64 ln] 38)) wr.heap.size #[.int .i64 kd, .bool st, .string nm, .string ot, .int .i64 dn, .slice p m co, .int .i64 ln] 38) := BX.new wr _ rfl _ _
   replace HH := hide (HH.out.below hq)
   replace HM := hide (MMp.keep HM.out (hq.block _ HM.out.lt))
   replace HB := hide (bel_next HB.out hq)
   have hsz2 := HB.out.size
   have HGD : Hid (w.heap.size + 1 < wr.heap.size) := hszr
   clear hq
   go_upto_region 6 with fail
   generalize wr.alloc (.cells #[.int .i64 kd, .bool st, .string nm, .string ot, .int .i64 dn, .slice p m co, .int .i64 ln] 38) = u at *
   obtain ⟨gd, hgd⟩ : ∃ gd, wr.heap.size = gd := ⟨_, rfl⟩
   rw [hgd] at HXD HGD ⊢
   clear hgd hsz2 hszr
   have d0 := HXD.out.cell 0 _ rfl
   have d1 := HXD.out.cell 1 _ rfl
   have d2 := HXD.out.cell 2 _ rfl
   have d3 := HXD.out.cell 3 _ rfl
   have d4 := HXD.out.cell 4 _ rfl
   have d5 := HXD.out.cell 5 _ rfl
   have d6 := HXD.out.cell 6 _ rfl
   go_wp2_with (go_at_call 36; refine (most16 _ _).mono ?_; rintro e w1 ⟨rfl, hw9⟩; have hw8 := hw9.symm; subst hw8; clear hw9; rw [HMO.out])
   go_roundw
   case rel => exact ⟨i + 1, f, q1, q2, q3, by omega, by go_num, HS2.out.trans HF.out, HB, HM.out.mono' (by omega), HH, HNR.out.imp_succ⟩
   case measure => simp [RowKit.intOf] <;> omega
  ·obtain rfl : i = n := by omega
   have HF2 : Hid (nbF l = (f, q1, q2, q3)) := by have q := HF.out; rw [List.take_of_length_le (by rw [HLN.out]; exact Nat.le_refl _)] at q; exact q
   have h0 := HH.out.cell 0 _ rfl
   have h1 := HH.out.cell 1 _ rfl
   have h2 := HH.out.cell 2 _ rfl
   have h3 := HH.out.cell 3 _ rfl
   have HSR := hide HH.out.size
   clear HF hlt
   go_wp2_with (go_at_call 27; refine (newSeen16 q1 q2 q3 _).mono ?_; rintro e w2 ⟨rfl, hb, hs⟩; have HB2 := hide hb; have HS2 := hide hs; clear hb hs)
   go_ret
   have hsz := HS2.out.size
   have hsr := HSR.out
   refine ⟨w2.heap.size, wr.heap.size + 1, w.heap.size, rfl, ?_, ?_⟩
   ·exact (bel_next HB.out HB2.out).alloc (Nat.le_trans HB.out.size HB2.out.size) _
   ·rw [HF2.out]
    have bq := bel1 w2 (.cells #[.slice none 0 0, .slice none 0 0, .slice none 0 0, .slice none 0 0, .slice none 0 0, .pointer (some ⟨wr.heap.size + 1 + 3, 0, none⟩), .map (some w.heap.size)] 50)
    refine ⟨BX.new w2 _ rfl _ _, HS2.out.below bq, ⟨_, (HM.out.keep (HB2.out.block _ HM.out.lt)).keep (bq.block _ (Nat.lt_of_lt_of_le HM.out.lt HB2.out.size))⟩, ⟨⟨OwnR.nil _ _, OwnR.nil _ _, OwnR.nil _ _, OwnR.nil _ _, OwnF.nil _ _⟩, Apt.nil _, Apt.nil _, Apt.nil _⟩, by omega, by omega, Nat.le_refl _, ?_⟩
    have := bq.size
    have := HB.out.size
    have := HB2.out.size
    omega
end Go.Proofs.YtomppblgalepjaaGreatDoor

