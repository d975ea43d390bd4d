/- Texts of this claim, joined: LF. -/
import Derived.Test.YtomppblgalepjaaGreatDoorJ17
/- What the reader's functions do (layer 14). -/
namespace Go.Proofs.YtomppblgalepjaaGreatDoor
open Go.RowKit Go.Lib
set_option linter.unusedVariables false
theorem put14_full {N d : Nat} {out : List Tk} {ln : Int} {pt : List Int} {rm : Bool} (w : World) (hr : RD14 N w d out ln pt rm) (hN : N ≤ w.heap.size) (k : Int) (t : ByteArray) (n : Int) (h8 : out.length = 800) : Calls Tryz.prog 92 #[.pointer (some ⟨d, 0, none⟩), .agg #[.int .i64 k, .string t, .int .i64 n, .int .i64 0]] w fun e w' => e = .returned (.int .i64 7) ∧ RD14 N w' d out ln pt rm ∧ Below N w w' ∧ IK w w' := by
 obtain ⟨hd, vT, vP, hx, ht, hp⟩ := hr
 obtain ⟨pT, cT, rfl, _, _⟩ := ht.open encTk_len
 have bq := byR N hN (.cells #[.int .i64 k, .string t, .int .i64 n, .int .i64 0] 129)
 have bq0 := bel1 w (.cells #[.int .i64 k, .string t, .int .i64 n, .int .i64 0] 129)
 have HG : Hid (BX (w.alloc (.cells #[.int .i64 k, .string t, .int .i64 n, .int .i64 0] 129)) w.heap.size #[.int .i64 k, .string t, .int .i64 n, .int .i64 0] 129) := BX.new w _ rfl _ _
 have hne : w.heap.size ≠ d := fun e => by have := hx.size; omega
 have hTo := ht.old (g := w.heap.size) (Nat.le_refl _)
 have hPo := hp.old (g := w.heap.size) (Nat.le_refl _)
 have HX := hide (hx.below bq0)
 have HT := hide (ht.below bq0)
 have HP := hide (hp.below bq0)
 have HB := hide bq
 have HI : Hid (IK w (w.alloc (.cells #[.int .i64 k, .string t, .int .i64 n, .int .i64 0] 129))) := IK.below bq0
 have HR : Hid (RD14 N (w.alloc (.cells #[.int .i64 k, .string t, .int .i64 n, .int .i64 0] 129)) d out ln pt rm) := ⟨hd, _, _, HX.out, HT.out, HP.out⟩
 clear hx ht hp bq bq0
 rw [h8] at HX
 go_enter Tryz.func92, Tryz.ntmps92
 go_upto_region 1 with fail
 have x0 := HX.out.cell 0 _ rfl
 generalize w.alloc (.cells #[.int .i64 k, .string t, .int .i64 n, .int .i64 0] 129) = w1 at *
 clear HG hTo hPo
 go_wp2
 go_ret
 exact ⟨rfl, HR.out, HB.out, HI.out⟩
set_option maxHeartbeats 4000000 in
theorem put14_ok {N d : Nat} {out : List Tk} {ln : Int} {pt : List Int} {rm : Bool} (w : World) (hr : RD14 N w d out ln pt rm) (hN : N ≤ w.heap.size) (k : Int) (t : ByteArray) (n : Int) (h8 : out.length < 800) : Calls Tryz.prog 92 #[.pointer (some ⟨d, 0, none⟩), .agg #[.int .i64 k, .string t, .int .i64 n, .int .i64 0]] w fun e w' => e = .returned (.int .i64 0) ∧ RD14 N w' d (out ++ [(k, t, n, ln)]) ln pt rm ∧ Below N w w' ∧ IK w w' := by
 obtain ⟨hd, vT, vP, hx, ht, hp⟩ := hr
 obtain ⟨pT, cT, rfl, _, _⟩ := ht.open encTk_len
 have bq := byR N hN (.cells #[.int .i64 k, .string t, .int .i64 n, .int .i64 0] 129)
 have bq0 := bel1 w (.cells #[.int .i64 k, .string t, .int .i64 n, .int .i64 0] 129)
 have HG : Hid (BX (w.alloc (.cells #[.int .i64 k, .string t, .int .i64 n, .int .i64 0] 129)) w.heap.size #[.int .i64 k, .string t, .int .i64 n, .int .i64 0] 129) := BX.new w _ rfl _ _
 have hne : w.heap.size ≠ d := fun e => by have := hx.size; omega
 have hTo := ht.old (g := w.heap.size) (Nat.le_refl _)
 have hPo := hp.old (g := w.heap.size) (Nat.le_refl _)
 have HX := hide (hx.below bq0)
 have HT := hide (ht.below bq0)
 have HP := hide (hp.below bq0)
 have HB := hide bq
 have HI : Hid (IK w (w.alloc (.cells #[.int .i64 k, .string t, .int .i64 n, .int .i64 0] 129))) := IK.below bq0
 clear hx ht hp bq bq0
 have h7 : ((out.length : Int) == 800) = false := by simp; omega
 go_enter Tryz.func92, Tryz.ntmps92
 go_upto_region 1 with fail
 have x0 := HX.out.cell 0 _ rfl
 have x1 := HX.out.cell 1 _ rfl
 have z3 := HG.out.cell 3 _ rfl
 have y3 := HG.out.free 3
 obtain ⟨g, hg⟩ : ∃ g, w.heap.size = g := ⟨_, rfl⟩
 have hgN : N ≤ g := by omega
 have hw1 := HB.out.size
 rw [hg] at hne hTo hPo HG z3 y3 ⊢
 generalize w.alloc (.cells #[.int .i64 k, .string t, .int .i64 n, .int .i64 0] 129) = w1 at *
 go_upto_region 4 with fail
 replace HX := hide (HX.out.other hne 3 (.int .i64 ln))
 replace HG := hide (HG.out.set 3 (.int .i64 ln))
 replace HT := hide (HT.out.set hTo 3 (.int .i64 ln))
 replace HP := hide (HP.out.set hPo 3 (.int .i64 ln))
 replace HB := hide (HB.out.setCell (p := ⟨g, 3, none⟩) hgN (.int .i64 ln))
 replace HI := hide (HI.out.trans (IK.set _ ⟨g, 3, none⟩ (.int .i64 ln)))
 clear x0 x1 z3 y3 hw1
 generalize w1.setCell ⟨g, 3, none⟩ (.int .i64 ln) = w2 at *
 have x0 := HX.out.cell 0 _ rfl
 have z0 := HG.out.cell 0 _ rfl
 have z1 := HG.out.cell 1 _ rfl
 have z2 := HG.out.cell 2 _ rfl
 have z3 := HG.out.cell 3 _ rfl
 have hN2 : N ≤ w2.heap.size := Nat.le_trans hN HB.out.size
 clear HG
 have BA := hide (bel1 w2 (.cells #[.int .i64 k, .string t, .int .i64 n, .int .i64 ln] 129))
 have x0b := (HX.out.below BA.out).cell 0 _ rfl
 have x0c := (HX.out.below BA.out.drew).cell 0 _ rfl
 refine wp_region_any (by kernel_rfl) ?_
 change wpAny _ _ _ _ _ _ _ (World.drew _)
 refine takeP 0 16 ?v1 rfl rfl (by kernel_rfl) (by kernel_rfl) (by kernel_rfl) (fun _ _ _ h => h) (by kernel_rfl) ?hy1 ?_
 case hy1 => (intro W; go_simp; try rfl)
 simp only [ly]
 refine takeP 1 17 ?v2 rfl rfl (by kernel_rfl) (by kernel_rfl) (by kernel_rfl) (fun _ _ _ h => h) (by kernel_rfl) ?hy2 ?_
 case hy2 => (intro W; go_simp; try rfl)
 simp only [ly]
 refine takeP 2 18 ?v3 rfl rfl (by kernel_rfl) (by kernel_rfl) (by kernel_rfl) (fun _ _ _ h => h) (by kernel_rfl) ?hy3 ?_
 case hy3 => (intro W; go_simp; try rfl)
 simp only [ly]
 refine takeP 3 19 ?v4 rfl rfl (by kernel_rfl) (by kernel_rfl) (by kernel_rfl) (fun _ _ _ h => h) (by kernel_rfl) ?hy4 ?_
 case hy4 => (intro W; go_simp; try rfl)
 simp only [ly]
 refine wpAny_ready (rs := [4, 5]) (by kernel_rfl) (by simp) ?_
 refine AllReady.cons rfl (fun K hK => ?_) (AllReady.cons rfl (fun K hK => ?_) AllReady.nil)
 ·go_simp
  first | (refine hK _ _ ?_; clear hK K) | skip
  try simp only [ly]
  refine wpAny_ready (rs := [5]) (by kernel_rfl) (by simp) ?_
  refine AllReady.cons rfl (fun K hK => ?_) AllReady.nil
  go_simp
  first | (refine hK _ _ ?_; clear hK K) | skip
  try simp only [ly]
  refine wpAny_ready (rs := [6]) (by kernel_rfl) (by simp) ?_
  refine AllReady.cons rfl (fun K hK => ?_) AllReady.nil
  go_simp
  first | (refine hK _ _ ?_; clear hK K) | skip
  try simp only [ly]
  refine wpAny_ready (rs := [7]) (by kernel_rfl) (by simp) ?_
  refine AllReady.cons rfl (fun K hK => ?_) AllReady.nil
  refine append_rg _ _ 92 rfl Tryz.underlying92 Tryz.infoTk rfl (by decide) (by decide) encTk_len encTk_one N _ out [(k, t, n, ln)] rfl (HT.out.below BA.out.drew) (some ⟨_, 0, none⟩) 1 1 rfl (fun h => by cases h) (RS.below (RS.new encTk_len w2 _ rfl [(k, t, n, ln)] _ rfl 129 (0, 0) 1 rfl (by decide)) ((Below.refl _ _).drew)) (by have h9 := h8; simp at h9 ⊢; omega) (Nat.le_trans hN2 BA.out.size) ?_
  intro v5 w5 ho5 hgr5 hbel5
  have HX5 := hide ((HX.out.below BA.out.drew).grown hgr5 (HT.out.off HX.out tyTR))
  have HP5 := hide ((HP.out.below BA.out.drew).grown hgr5 (fun g e => (HP.out.apart HT.out (fun e => tyTI e.symm) g e)))
  have HI5 := hide (HI.out.trans ((IK.below BA.out.drew).trans ((HT.out.below BA.out.drew).ik hgr5)))
  have HB5 := hide (hbel5 _ (HB.out.trans (byR N hN2 _)).drew)
  have HO5 := hide ho5
  obtain ⟨p5, c5, hv5, _, _⟩ := ho5.open encTk_len
  subst hv5
  rw [show (out ++ [((k, t, n, ln) : Tk)]).length = out.length + 1 by simp] at HO5 ⊢
  have x5 := HX5.out.cell 0 _ rfl
  have y5 := HX5.out.free 0
  clear ho5 hgr5 hbel5
  change K (Act.put _ (some 23) _) _
  first | (refine hK _ _ ?_; clear hK K) | skip
  try simp only [ly]
  refine takeP 8 24 ?v5 rfl rfl (by kernel_rfl) (by kernel_rfl) (by kernel_rfl) (fun _ _ _ h => h) (by kernel_rfl) ?hy5 ?_
  case hy5 => (intro W; go_simp; try rfl)
  simp only [ly]
  refine takeP 9 25 ?v6 rfl rfl (by kernel_rfl) (by kernel_rfl) (by kernel_rfl) (fun _ _ _ h => h) (by kernel_rfl) ?hy6 ?_
  case hy6 => (intro W; go_simp; try rfl)
  simp only [ly]
  refine wpAny_ready (rs := [10]) (by kernel_rfl) (by simp) ?_
  refine AllReady.cons rfl (fun K hK => ?_) AllReady.nil
  go_simp
  first | (refine hK _ _ ?_; clear hK K) | skip
  try simp only [ly]
  refine wpAny_done (by kernel_rfl) ?_ _
  go_wp2
  go_ret
  exact ⟨rfl, ⟨hd, _, _, HX5.out.set 0 _, HO5.out.set (HO5.out.off HX5.out tyTR) 0 _, HP5.out.set (HP5.out.off HX5.out tyIR) 0 _⟩, HB5.out.setCell (p := ⟨d, 0, none⟩) hd _, HI5.out.trans (IK.set _ _ _)⟩
 ·go_simp
  first | (refine hK _ _ ?_; clear hK K) | skip
  try simp only [ly]
  refine wpAny_ready (rs := [4, 6]) (by kernel_rfl) (by simp) ?_
  refine AllReady.cons rfl (fun K hK => ?_) (AllReady.cons rfl (fun K hK => ?_) AllReady.nil)
  ·go_simp
   first | (refine hK _ _ ?_; clear hK K) | skip
   try simp only [ly]
   refine wpAny_ready (rs := [6]) (by kernel_rfl) (by simp) ?_
   refine AllReady.cons rfl (fun K hK => ?_) AllReady.nil
   go_simp
   first | (refine hK _ _ ?_; clear hK K) | skip
   try simp only [ly]
   refine wpAny_ready (rs := [7]) (by kernel_rfl) (by simp) ?_
   refine AllReady.cons rfl (fun K hK => ?_) AllReady.nil
   refine append_rg _ _ 92 rfl Tryz.underlying92 Tryz.infoTk rfl (by decide) (by decide) encTk_len encTk_one N _ out [(k, t, n, ln)] rfl (HT.out.below BA.out.drew) (some ⟨_, 0, none⟩) 1 1 rfl (fun h => by cases h) (RS.below (RS.new encTk_len w2 _ rfl [(k, t, n, ln)] _ rfl 129 (0, 0) 1 rfl (by decide)) ((Below.refl _ _).drew)) (by have h9 := h8; simp at h9 ⊢; omega) (Nat.le_trans hN2 BA.out.size) ?_
   intro v5 w5 ho5 hgr5 hbel5
   have HX5 := hide ((HX.out.below BA.out.drew).grown hgr5 (HT.out.off HX.out tyTR))
   have HP5 := hide ((HP.out.below BA.out.drew).grown hgr5 (fun g e => (HP.out.apart HT.out (fun e => tyTI e.symm) g e)))
   have HI5 := hide (HI.out.trans ((IK.below BA.out.drew).trans ((HT.out.below BA.out.drew).ik hgr5)))
   have HB5 := hide (hbel5 _ (HB.out.trans (byR N hN2 _)).drew)
   have HO5 := hide ho5
   obtain ⟨p5, c5, hv5, _, _⟩ := ho5.open encTk_len
   subst hv5
   rw [show (out ++ [((k, t, n, ln) : Tk)]).length = out.length + 1 by simp] at HO5 ⊢
   have x5 := HX5.out.cell 0 _ rfl
   have y5 := HX5.out.free 0
   clear ho5 hgr5 hbel5
   change K (Act.put _ (some 23) _) _
   first | (refine hK _ _ ?_; clear hK K) | skip
   try simp only [ly]
   refine takeP 8 24 ?v7 rfl rfl (by kernel_rfl) (by kernel_rfl) (by kernel_rfl) (fun _ _ _ h => h) (by kernel_rfl) ?hy7 ?_
   case hy7 => (intro W; go_simp; try rfl)
   simp only [ly]
   refine takeP 9 25 ?v8 rfl rfl (by kernel_rfl) (by kernel_rfl) (by kernel_rfl) (fun _ _ _ h => h) (by kernel_rfl) ?hy8 ?_
   case hy8 => (intro W; go_simp; try rfl)
   simp only [ly]
   refine wpAny_ready (rs := [10]) (by kernel_rfl) (by simp) ?_
   refine AllReady.cons rfl (fun K hK => ?_) AllReady.nil
   go_simp
   first | (refine hK _ _ ?_; clear hK K) | skip
   try simp only [ly]
   refine wpAny_done (by kernel_rfl) ?_ _
   go_wp2
   go_ret
   exact ⟨rfl, ⟨hd, _, _, HX5.out.set 0 _, HO5.out.set (HO5.out.off HX5.out tyTR) 0 _, HP5.out.set (HP5.out.off HX5.out tyIR) 0 _⟩, HB5.out.setCell (p := ⟨d, 0, none⟩) hd _, HI5.out.trans (IK.set _ _ _)⟩
  ·go_simp
   first | (refine hK _ _ ?_; clear hK K) | skip
   try simp only [ly]
   refine wpAny_ready (rs := [4]) (by kernel_rfl) (by simp) ?_
   refine AllReady.cons rfl (fun K hK => ?_) AllReady.nil
   go_simp
   first | (refine hK _ _ ?_; clear hK K) | skip
   try simp only [ly]
   refine wpAny_ready (rs := [7]) (by kernel_rfl) (by simp) ?_
   refine AllReady.cons rfl (fun K hK => ?_) AllReady.nil
   refine append_rg _ _ 92 rfl Tryz.underlying92 Tryz.infoTk rfl (by decide) (by decide) encTk_len encTk_one N _ out [(k, t, n, ln)] rfl (HT.out.below BA.out.drew) (some ⟨_, 0, none⟩) 1 1 rfl (fun h => by cases h) (RS.below (RS.new encTk_len w2 _ rfl [(k, t, n, ln)] _ rfl 129 (0, 0) 1 rfl (by decide)) ((Below.refl _ _).drew)) (by have h9 := h8; simp at h9 ⊢; omega) (Nat.le_trans hN2 BA.out.size) ?_
   intro v5 w5 ho5 hgr5 hbel5
   have HX5 := hide ((HX.out.below BA.out.drew).grown hgr5 (HT.out.off HX.out tyTR))
   have HP5 := hide ((HP.out.below BA.out.drew).grown hgr5 (fun g e => (HP.out.apart HT.out (fun e => tyTI e.symm) g e)))
   have HI5 := hide (HI.out.trans ((IK.below BA.out.drew).trans ((HT.out.below BA.out.drew).ik hgr5)))
   have HB5 := hide (hbel5 _ (HB.out.trans (byR N hN2 _)).drew)
   have HO5 := hide ho5
   obtain ⟨p5, c5, hv5, _, _⟩ := ho5.open encTk_len
   subst hv5
   rw [show (out ++ [((k, t, n, ln) : Tk)]).length = out.length + 1 by simp] at HO5 ⊢
   have x5 := HX5.out.cell 0 _ rfl
   have y5 := HX5.out.free 0
   clear ho5 hgr5 hbel5
   change K (Act.put _ (some 23) _) _
   first | (refine hK _ _ ?_; clear hK K) | skip
   try simp only [ly]
   refine takeP 8 24 ?v9 rfl rfl (by kernel_rfl) (by kernel_rfl) (by kernel_rfl) (fun _ _ _ h => h) (by kernel_rfl) ?hy9 ?_
   case hy9 => (intro W; go_simp; try rfl)
   simp only [ly]
   refine takeP 9 25 ?v10 rfl rfl (by kernel_rfl) (by kernel_rfl) (by kernel_rfl) (fun _ _ _ h => h) (by kernel_rfl) ?hy10 ?_
   case hy10 => (intro W; go_simp; try rfl)
   simp only [ly]
   refine wpAny_ready (rs := [10]) (by kernel_rfl) (by simp) ?_
   refine AllReady.cons rfl (fun K hK => ?_) AllReady.nil
   go_simp
   first | (refine hK _ _ ?_; clear hK K) | skip
   try simp only [ly]
   refine wpAny_done (by kernel_rfl) ?_ _
   go_wp2
   go_ret
   exact ⟨rfl, ⟨hd, _, _, HX5.out.set 0 _, HO5.out.set (HO5.out.off HX5.out tyTR) 0 _, HP5.out.set (HP5.out.off HX5.out tyIR) 0 _⟩, HB5.out.setCell (p := ⟨d, 0, none⟩) hd _, HI5.out.trans (IK.set _ _ _)⟩
theorem put14 {N d : Nat} {out : List Tk} {ln : Int} {pt : List Int} {rm : Bool} (w : World) (hr : RD14 N w d out ln pt rm) (hN : N ≤ w.heap.size) (k : Int) (t : ByteArray) (n : Int) (ho : out.length ≤ 800) : Calls Tryz.prog 92 #[.pointer (some ⟨d, 0, none⟩), .agg #[.int .i64 k, .string t, .int .i64 n, .int .i64 0]] w fun e w' => e = .returned (.int .i64 (ptS out (k, t, n, ln)).1) ∧ RD14 N w' d (ptS out (k, t, n, ln)).2 ln pt rm ∧ Below N w w' ∧ IK w w' := by
 unfold ptS
 by_cases h8 : out.length = 800
 ·rw [if_pos h8]
  exact put14_full w hr hN k t n h8
 ·rw [if_neg h8]
  exact put14_ok w hr hN k t n (by omega)
set_option maxHeartbeats 2000000 in
theorem endLine14 {N d : Nat} {out : List Tk} {ln : Int} {pt : List Int} {rm : Bool} (w : World) (hr : RD14 N w d out ln pt rm) (hN : N ≤ w.heap.size) (ho : out.length ≤ 800) (hl : 0 ≤ ln ∧ ln ≤ 100000) : Calls Tryz.prog 100 #[.pointer (some ⟨d, 0, none⟩)] w fun e w' => e = .returned (.int .i64 (mkS out ln rm 10).1) ∧ RD14 N w' d (mkS out ln rm 10).2.1 (mkS out ln rm 10).2.2.1 pt (mkS out ln rm 10).2.2.2 ∧ Below N w w' ∧ IK w w' := by
 rw [mkS_line]
 have HR := hide hr
 have HB : Hid (Below N w w) := Below.refl _ _
 have HI : Hid (IK w w) := IK.refl _
 have hd := hr.1
 clear hr
 by_cases h8 : out.length = 800
 ·rw [if_pos h8]
  have HPT : Hid (∀ W, N ≤ W.heap.size → RD14 N W d out ln pt rm → Calls Tryz.prog 92 #[.pointer (some ⟨d, 0, none⟩), .agg #[.int .i64 5, .string ⟨#[]⟩, .int .i64 0, .int .i64 0]] W fun e w' => e = .returned (.int .i64 7) ∧ RD14 N w' d (out) ln pt rm ∧ Below N W w' ∧ IK W w') := fun W h1 h2 => put14_full W h2 h1 5 ⟨#[]⟩ 0 h8
  clear h8 ho
  go_enter Tryz.func100, Tryz.ntmps100
  go_wp2_with (go_at_call 92; refine (HPT.out _ (Nat.le_trans hN HB.out.size) HR.out).mono ?_; rintro e w2 ⟨rfl, hr2, hb2, hi2⟩; replace HR := hide hr2; replace HI := hide (HI.out.trans hi2); replace HB := hide (HB.out.trans hb2); clear hr2 hb2 hi2)
  go_ret
  exact ⟨rfl, HR.out, HB.out, HI.out⟩
 ·rw [if_neg h8]
  have HPT : Hid (∀ W, N ≤ W.heap.size → RD14 N W d out ln pt rm → Calls Tryz.prog 92 #[.pointer (some ⟨d, 0, none⟩), .agg #[.int .i64 5, .string ⟨#[]⟩, .int .i64 0, .int .i64 0]] W fun e w' => e = .returned (.int .i64 0) ∧ RD14 N w' d (out ++ [(5, ⟨#[]⟩, 0, ln)]) ln pt rm ∧ Below N W w' ∧ IK W w') := fun W h1 h2 => put14_ok W h2 h1 5 ⟨#[]⟩ 0 (by omega)
  have hwr : IntKind.i64.wrap (ln + 1) = ln + 1 := by rw [IntKind.wrap_i64]; omega
  clear h8 ho
  generalize out ++ [(5, (⟨#[]⟩ : ByteArray), (0 : Int), ln)] = out2 at HPT ⊢
  go_enter Tryz.func100, Tryz.ntmps100
  go_upto_region 4 with (go_at_call 92; refine (HPT.out _ (Nat.le_trans hN HB.out.size) HR.out).mono ?_; rintro e w2 ⟨rfl, hr2, hb2, hi2⟩; replace HR := hide hr2; replace HI := hide (HI.out.trans hi2); replace HB := hide (HB.out.trans hb2); clear hr2 hb2 hi2)
  obtain ⟨_, vT, vP, hx, ht, hp⟩ := HR.out
  have HX := hide hx
  have HT := hide ht
  have HP := hide hp
  clear hx ht hp HR HPT
  have x1 := HX.out.cell 1 _ rfl
  have y1 := HX.out.free 1
  go_upto_region 5 with fail
  replace HT := hide (HT.out.set (HT.out.off HX.out tyTR) 1 (.int .i64 (ln + 1)))
  replace HP := hide (HP.out.set (HP.out.off HX.out tyIR) 1 (.int .i64 (ln + 1)))
  replace HX : Hid (BX (w2.setCell ⟨d, 1, none⟩ (.int .i64 (ln + 1))) d #[vT, .int .i64 (ln + 1), vP, .bool rm] 109) := HX.out.set 1 _
  replace HB := hide (HB.out.setCell (p := ⟨d, 1, none⟩) hd (.int .i64 (ln + 1)))
  replace HI := hide (HI.out.trans (IK.set _ ⟨d, 1, none⟩ (.int .i64 (ln + 1))))
  clear x1 y1
  generalize w2.setCell ⟨d, 1, none⟩ (.int .i64 (ln + 1)) = w3 at *
  have x3 := HX.out.cell 3 _ rfl
  have y3 := HX.out.free 3
  go_wp2
  go_ret
  exact ⟨rfl, ⟨hd, _, _, HX.out.set 3 _, HT.out.set (HT.out.off HX.out tyTR) 3 _, HP.out.set (HP.out.off HX.out tyIR) 3 _⟩, HB.out.setCell (p := ⟨d, 3, none⟩) hd _, HI.out.trans (IK.set _ _ _)⟩
set_option maxHeartbeats 4000000 in
theorem endPart14 {N d : Nat} {out : List Tk} {ln : Int} {pt : List Int} {rm : Bool} (w : World) (hr : RD14 N w d out ln pt rm) (hN : N ≤ w.heap.size) (hv : LVN N w) (ho : out.length ≤ 800) (hpl : pt.length ≤ 5000) (hpw : ∀ c ∈ pt, isWd c = true) : Calls Tryz.prog 90 #[.pointer (some ⟨d, 0, none⟩)] w fun e w' => e = .returned (.int .i64 (epS out ln pt).1) ∧ RD14 N w' d (epS out ln pt).2 ln [] rm ∧ Below N w w' ∧ IK w w' := by
 have HV := hide hv
 clear hv
 by_cases h0 : pt = []
 ·subst h0
  have HR := hide hr
  obtain ⟨hd, vT, vP, hx, ht, hp⟩ := hr
  obtain ⟨pP, cP, rfl, _, _⟩ := hp.open encRn_len
  have x2 := hx.cell 2 _ rfl
  clear hx ht hp hpl hpw
  go_enter Tryz.func90, Tryz.ntmps90
  go_wp2
  go_ret
  exact ⟨rfl, HR.out, Below.refl _ _, IK.refl _⟩
 ·obtain ⟨hd, vT, vP, hx, ht, hp⟩ := hr
  obtain ⟨pP, cP, rfl, hrs, _⟩ := hp.open encRn_len
  have hlp := List.length_pos_iff.2 h0
  obtain ⟨b, off, rfl⟩ : ∃ b off, pP = some ⟨b, off, none⟩ := by
   rcases hrs.2.2 with hz | ⟨b, off, rfl, _⟩
   ·omega
   ·exact ⟨b, off, rfl⟩
  have hcv := conv14 (cap := cP) hrs (fun c hc => wd_low (hpw c hc))
  have hby : By pt := fun c hc => by have := wd_low (hpw c hc); omega
  have hS := bytes_str hby
  have hsz : (strOfNums pt).size ≤ 5000 := by rw [strOfNums_size]; exact hpl
  have hnl : ((pt.length : Int) == 0) = false := by simp; omega
  have HR0 : Hid (RD14 N (w.setCell ⟨d, 2, none⟩ (.slice none 0 0)) d out ln [] rm) := ⟨hd, _, _, hx.set 2 _, ht.set (ht.off hx tyTR) 2 _, OwnR.nil _ _⟩
  have HB0 : Hid (Below N w (w.setCell ⟨d, 2, none⟩ (.slice none 0 0))) := (Below.refl _ _).setCell (p := ⟨d, 2, none⟩) hd _
  have HI0 : Hid (IK w (w.setCell ⟨d, 2, none⟩ (.slice none 0 0))) := IK.set _ _ _
  have x2 := hx.cell 2 _ rfl
  have y2 := hx.free 2
  clear hx ht hp hrs hby hpw
  generalize hSS : strOfNums pt = S at *
  generalize pt.length = np at *
  have st : ∀ Q : Prop, Q → Q := fun _ h => h
  rcases hwb : wordB pt with _ | _
  ·rcases hnb : numB pt with _ | _
   ·have HE : Hid (epS out ln pt = (2, out)) := epS_none h0 (by unfold tokW; rw [if_neg (by rw [hwb]; decide), if_neg (by rw [hnb]; decide)])
    have HWD : Hid (∀ W, Calls Tryz.prog 98 #[.string S] W fun e w' => e = .returned (.bool false) ∧ Below W.heap.size W w') := fun W => by
     have q := WordP14 S W (by omega)
     rw [hS, hwb] at q
     exact q
    have HNB : Hid (∀ W, LV W → Calls Tryz.prog 99 #[.string S] W fun e w' => e = .returned (.tuple #[.int .i64 0, .bool false]) ∧ Below W.heap.size W w') := fun W hW => by
     have q := number14P S (by omega) W hW
     rw [hS] at q
     unfold nmP at q
     rw [if_neg (by rw [hnb]; decide)] at q
     exact q
    rw [HE.out]
    clear hwb hnb h0 hS hSS hlp st
    go_enter Tryz.func90, Tryz.ntmps90
    go_upto_region 5 with fail
    generalize w.setCell ⟨d, 2, none⟩ (.slice none 0 0) = w1 at *
    clear x2 y2 hcv
    have HR := HR0
    have HB := HB0
    have HI := HI0
    clear HR0 HB0 HI0
    go_wp2_with (first | (go_at_call 98; refine (HWD.out _).mono ?_; rintro e w3 ⟨rfl, hb3⟩; replace HR := hide (HR.out.below hb3); replace HI := hide (HI.out.trans (IK.below hb3)); replace HB := hide (belN hN HB.out hb3); clear hb3) | (go_at_call 99; refine (HNB.out _ (HV.out.below HB.out).1).mono ?_; rintro e w4 ⟨rfl, hb4⟩; replace HR := hide (HR.out.below hb4); replace HI := hide (HI.out.trans (IK.below hb4)); replace HB := hide (belN hN HB.out hb4); clear hb4))
    go_ret
    exact ⟨rfl, HR.out, HB.out, HI.out⟩
   ·have HE : Hid (epS out ln pt = ptS out (2, ⟨#[]⟩, valN pt, ln)) := epS_some h0 (by unfold tokW; rw [if_neg (by rw [hwb]; decide), if_pos hnb])
    have HWD : Hid (∀ W, Calls Tryz.prog 98 #[.string S] W fun e w' => e = .returned (.bool false) ∧ Below W.heap.size W w') := fun W => by
     have q := WordP14 S W (by omega)
     rw [hS, hwb] at q
     exact q
    have HNB : Hid (∀ W, LV W → Calls Tryz.prog 99 #[.string S] W fun e w' => e = .returned (.tuple #[.int .i64 (valN pt), .bool true]) ∧ Below W.heap.size W w') := fun W hW => by
     have q := number14P S (by omega) W hW
     rw [hS] at q
     unfold nmP at q
     rw [if_pos hnb] at q
     exact q
    rw [HE.out]
    clear hwb hnb h0 hS hSS hlp st HE
    generalize valN pt = vn at *
    have HPT : Hid (∀ W, N ≤ W.heap.size → RD14 N W d out ln [] rm → Calls Tryz.prog 92 #[.pointer (some ⟨d, 0, none⟩), .agg #[.int .i64 2, .string ⟨#[]⟩, .int .i64 vn, .int .i64 0]] W fun e w' => e = .returned (.int .i64 (ptS out (2, ⟨#[]⟩, vn, ln)).1) ∧ RD14 N w' d (ptS out (2, ⟨#[]⟩, vn, ln)).2 ln [] rm ∧ Below N W w' ∧ IK W w') := fun W h1 h2 => put14 W h2 h1 2 ⟨#[]⟩ vn ho
    generalize ptS out (2, ⟨#[]⟩, vn, ln) = PQ at HPT ⊢
    go_enter Tryz.func90, Tryz.ntmps90
    go_upto_region 5 with fail
    generalize w.setCell ⟨d, 2, none⟩ (.slice none 0 0) = w1 at *
    clear x2 y2 hcv
    have HR := HR0
    have HB := HB0
    have HI := HI0
    clear HR0 HB0 HI0
    go_wp2_with (first | (go_at_call 98; refine (HWD.out _).mono ?_; rintro e w3 ⟨rfl, hb3⟩; replace HR := hide (HR.out.below hb3); replace HI := hide (HI.out.trans (IK.below hb3)); replace HB := hide (belN hN HB.out hb3); clear hb3) | (go_at_call 99; refine (HNB.out _ (HV.out.below HB.out).1).mono ?_; rintro e w4 ⟨rfl, hb4⟩; replace HR := hide (HR.out.below hb4); replace HI := hide (HI.out.trans (IK.below hb4)); replace HB := hide (belN hN HB.out hb4); clear hb4) | (go_at_call 92; refine (HPT.out _ (Nat.le_trans hN HB.out.size) HR.out).mono ?_; rintro e w2 ⟨rfl, hr2, hb2, hi2⟩; replace HR := hide hr2; replace HI := hide (HI.out.trans hi2); replace HB := hide (HB.out.trans hb2); clear hr2 hb2 hi2))
    go_ret
    exact ⟨rfl, HR.out, HB.out, HI.out⟩
  ·have HE : Hid (epS out ln pt = ptS out (1, S, 0, ln)) := epS_some h0 (by unfold tokW; rw [if_pos hwb, hSS])
   have HWD : Hid (∀ W, Calls Tryz.prog 98 #[.string S] W fun e w' => e = .returned (.bool true) ∧ Below W.heap.size W w') := fun W => by
    have q := WordP14 S W (by omega)
    rw [hS, hwb] at q
    exact q
   rw [HE.out]
   clear hwb h0 hS hSS hlp st HE
   have HPT : Hid (∀ W, N ≤ W.heap.size → RD14 N W d out ln [] rm → Calls Tryz.prog 92 #[.pointer (some ⟨d, 0, none⟩), .agg #[.int .i64 1, .string S, .int .i64 0, .int .i64 0]] W fun e w' => e = .returned (.int .i64 (ptS out (1, S, 0, ln)).1) ∧ RD14 N w' d (ptS out (1, S, 0, ln)).2 ln [] rm ∧ Below N W w' ∧ IK W w') := fun W h1 h2 => put14 W h2 h1 1 S 0 ho
   generalize ptS out (1, S, 0, ln) = PQ at HPT ⊢
   go_enter Tryz.func90, Tryz.ntmps90
   go_upto_region 5 with fail
   generalize w.setCell ⟨d, 2, none⟩ (.slice none 0 0) = w1 at *
   clear x2 y2 hcv
   have HR := HR0
   have HB := HB0
   have HI := HI0
   clear HR0 HB0 HI0
   go_wp2_with (first | (go_at_call 98; refine (HWD.out _).mono ?_; rintro e w3 ⟨rfl, hb3⟩; replace HR := hide (HR.out.below hb3); replace HI := hide (HI.out.trans (IK.below hb3)); replace HB := hide (belN hN HB.out hb3); clear hb3) | (go_at_call 92; refine (HPT.out _ (Nat.le_trans hN HB.out.size) HR.out).mono ?_; rintro e w2 ⟨rfl, hr2, hb2, hi2⟩; replace HR := hide hr2; replace HI := hide (HI.out.trans hi2); replace HB := hide (HB.out.trans hb2); clear hr2 hb2 hi2))
   go_ret
   exact ⟨rfl, HR.out, HB.out, HI.out⟩
set_option maxHeartbeats 4000000 in
theorem mark14 {N d : Nat} {out : List Tk} {ln : Int} {pt : List Int} {rm : Bool} (w : World) (hr : RD14 N w d out ln pt rm) (hN : N ≤ w.heap.size) (r : Int) (ho : out.length ≤ 800) (hl : 0 ≤ ln ∧ ln ≤ 100000) : Calls Tryz.prog 91 #[.pointer (some ⟨d, 0, none⟩), .int .i32 r] w fun e w' => e = .returned (.int .i64 (mkS out ln rm r).1) ∧ RD14 N w' d (mkS out ln rm r).2.1 (mkS out ln rm r).2.2.1 pt (mkS out ln rm r).2.2.2 ∧ Below N w w' ∧ IK w w' := by
 have HR := hide hr
 have HB : Hid (Below N w w) := Below.refl _ _
 have HI : Hid (IK w w) := IK.refl _
 by_cases h32 : r = 32
 ·subst h32
  rw [mkS_blank (.inl rfl)]
  clear hr
  clear ho hl
  go_enter Tryz.func91, Tryz.ntmps91
  go_wp2
  go_ret
  exact ⟨rfl, HR.out, HB.out, HI.out⟩
 by_cases h9 : r = 9
 ·subst h9
  rw [mkS_blank (.inr rfl)]
  clear hr
  clear ho hl
  go_enter Tryz.func91, Tryz.ntmps91
  go_wp2
  go_ret
  exact ⟨rfl, HR.out, HB.out, HI.out⟩
 by_cases h35 : r = 35
 ·subst h35
  rw [mkS_hash]
  obtain ⟨hd, vT, vP, hx, ht, hp⟩ := hr
  have x3 := hx.cell 3 _ rfl
  have y3 := hx.free 3
  have HF : Hid (RD14 N (w.setCell ⟨d, 3, none⟩ (.bool true)) d out ln pt true) := ⟨hd, _, _, hx.set 3 _, ht.set (ht.off hx tyTR) 3 _, hp.set (hp.off hx tyIR) 3 _⟩
  clear hx ht hp HR ho hl
  go_enter Tryz.func91, Tryz.ntmps91
  go_wp2
  go_ret
  exact ⟨rfl, HF.out, HB.out.setCell (p := ⟨d, 3, none⟩) hd _, HI.out.trans (IK.set _ _ _)⟩
 by_cases h58 : r = 58
 ·subst h58
  rw [mkS_colon]
  clear hr
  have HPT : Hid (∀ W, N ≤ W.heap.size → RD14 N W d out ln pt rm → Calls Tryz.prog 92 #[.pointer (some ⟨d, 0, none⟩), .agg #[.int .i64 3, .string ⟨#[]⟩, .int .i64 0, .int .i64 0]] W fun e w' => e = .returned (.int .i64 (ptS out (3, ⟨#[]⟩, 0, ln)).1) ∧ RD14 N w' d (ptS out (3, ⟨#[]⟩, 0, ln)).2 ln pt rm ∧ Below N W w' ∧ IK W w') := fun W h1 h2 => put14 W h2 h1 3 ⟨#[]⟩ 0 ho
  generalize ptS out (3, (⟨#[]⟩ : ByteArray), (0 : Int), ln) = PQ at HPT ⊢
  clear ho hl
  go_enter Tryz.func91, Tryz.ntmps91
  go_wp2_with (go_at_call 92; refine (HPT.out _ (Nat.le_trans hN HB.out.size) HR.out).mono ?_; rintro e w2 ⟨rfl, hr2, hb2, hi2⟩; replace HR := hide hr2; replace HI := hide (HI.out.trans hi2); replace HB := hide (HB.out.trans hb2); clear hr2 hb2 hi2)
  go_ret
  exact ⟨rfl, HR.out, HB.out, HI.out⟩
 by_cases h44 : r = 44
 ·subst h44
  rw [mkS_comma]
  clear hr
  have HPT : Hid (∀ W, N ≤ W.heap.size → RD14 N W d out ln pt rm → Calls Tryz.prog 92 #[.pointer (some ⟨d, 0, none⟩), .agg #[.int .i64 4, .string ⟨#[]⟩, .int .i64 0, .int .i64 0]] W fun e w' => e = .returned (.int .i64 (ptS out (4, ⟨#[]⟩, 0, ln)).1) ∧ RD14 N w' d (ptS out (4, ⟨#[]⟩, 0, ln)).2 ln pt rm ∧ Below N W w' ∧ IK W w') := fun W h1 h2 => put14 W h2 h1 4 ⟨#[]⟩ 0 ho
  generalize ptS out (4, (⟨#[]⟩ : ByteArray), (0 : Int), ln) = PQ at HPT ⊢
  clear ho hl
  go_enter Tryz.func91, Tryz.ntmps91
  go_wp2_with (go_at_call 92; refine (HPT.out _ (Nat.le_trans hN HB.out.size) HR.out).mono ?_; rintro e w2 ⟨rfl, hr2, hb2, hi2⟩; replace HR := hide hr2; replace HI := hide (HI.out.trans hi2); replace HB := hide (HB.out.trans hb2); clear hr2 hb2 hi2)
  go_ret
  exact ⟨rfl, HR.out, HB.out, HI.out⟩
 by_cases h10 : r = 10
 ·subst h10
  have HPT : Hid (∀ W, N ≤ W.heap.size → RD14 N W d out ln pt rm → Calls Tryz.prog 100 #[.pointer (some ⟨d, 0, none⟩)] W fun e w' => e = .returned (.int .i64 (mkS out ln rm 10).1) ∧ RD14 N w' d (mkS out ln rm 10).2.1 (mkS out ln rm 10).2.2.1 pt (mkS out ln rm 10).2.2.2 ∧ Below N W w' ∧ IK W w') := fun W h1 h2 => endLine14 W h2 h1 ho hl
  generalize mkS out ln rm 10 = PQ at HPT ⊢
  clear hr ho hl
  go_enter Tryz.func91, Tryz.ntmps91
  go_wp2_with (go_at_call 100; refine (HPT.out _ (Nat.le_trans hN HB.out.size) HR.out).mono ?_; rintro e w2 ⟨rfl, hr2, hb2, hi2⟩; replace HR := hide hr2; replace HI := hide (HI.out.trans hi2); replace HB := hide (HB.out.trans hb2); clear hr2 hb2 hi2)
  go_ret
  exact ⟨rfl, HR.out, HB.out, HI.out⟩
 rw [mkS_bad (fun h => h.elim h32 h9) h35 h58 h44 h10]
 have g32 : (r == 32) = false := by simpa using h32
 have g9 : (r == 9) = false := by simpa using h9
 have g35 : (r == 35) = false := by simpa using h35
 have g58 : (r == 58) = false := by simpa using h58
 have g44 : (r == 44) = false := by simpa using h44
 have g10 : (r == 10) = false := by simpa using h10
 clear hr h32 h9 h35 h58 h44 h10
 clear ho hl
 go_enter Tryz.func91, Tryz.ntmps91
 go_wp2
 go_ret
 exact ⟨rfl, HR.out, HB.out, HI.out⟩
set_option maxHeartbeats 4000000 in
theorem next14 {N d : Nat} {out : List Tk} {ln : Int} {pt : List Int} {rm : Bool} (w : World) (hr : RD14 N w d out ln pt rm) (hN : N ≤ w.heap.size) (r : Int) (hv : LVN N w) (ho : out.length ≤ 800) (hl : 0 ≤ ln ∧ ln ≤ 100000) (hpl : pt.length ≤ 5000) (hpw : ∀ c ∈ pt, isWd c = true) : Calls Tryz.prog 82 #[.pointer (some ⟨d, 0, none⟩), .int .i32 r] w fun e w' => e = .returned (.int .i64 (nextS out ln pt rm r).1) ∧ RD14 N w' d (nextS out ln pt rm r).2.1 (nextS out ln pt rm r).2.2.1 (nextS out ln pt rm r).2.2.2.1 (nextS out ln pt rm r).2.2.2.2 ∧ Below N w w' ∧ IK w w' := by
 have HV := hide hv
 clear hv
 have HR := hide hr
 have HB : Hid (Below N w w) := Below.refl _ _
 have HI : Hid (IK w w) := IK.refl _
 have HPA := hide (fun W => isPart14 r W)
 obtain ⟨hd, vT, vP, hx, ht, hp⟩ := hr
 have x3 := hx.cell 3 _ rfl
 have hnx : nextS out ln pt rm r = nextS out ln pt rm r := rfl
 unfold nextS
 by_cases h1 : rm = true ∧ r ≠ 10
 ·rw [if_pos h1]
  obtain ⟨rfl, h10⟩ := h1
  have g10 : (r != 10) = true := by simpa using h10
  clear hx ht hp ho hl hpl hpw hnx h10 HPA
  go_enter Tryz.func82, Tryz.ntmps82
  go_wp2
  go_ret
  exact ⟨rfl, HR.out, HB.out, HI.out⟩
 rw [if_neg h1]
 rcases hw : isWd r with _ | _
 ·rw [if_neg (by decide)]
  rw [hw] at HPA
  cases rm
  ·clear hx ht hp hnx h1 hw
   have HEP : Hid (∀ W, N ≤ W.heap.size → LVN N W → RD14 N W d out ln pt false → Calls Tryz.prog 90 #[.pointer (some ⟨d, 0, none⟩)] W fun e w' => e = .returned (.int .i64 (epS out ln pt).1) ∧ RD14 N w' d (epS out ln pt).2 ln [] false ∧ Below N W w' ∧ IK W w') := fun W h1 h2 h3 => endPart14 W h3 h1 h2 ho hpl hpw
   have hel := epS_len ho ln pt
   obtain ⟨⟨ec, eo⟩, hep⟩ : ∃ q, epS out ln pt = q := ⟨_, rfl⟩
   rw [hep] at HEP hel ⊢
   by_cases h0 : ec = 0
   ·subst h0
    rw [if_pos rfl]
    have HMK : Hid (∀ W, N ≤ W.heap.size → RD14 N W d eo ln [] false → Calls Tryz.prog 91 #[.pointer (some ⟨d, 0, none⟩), .int .i32 r] W fun e w' => e = .returned (.int .i64 (mkS eo ln false r).1) ∧ RD14 N w' d (mkS eo ln false r).2.1 (mkS eo ln false r).2.2.1 [] (mkS eo ln false r).2.2.2 ∧ Below N W w' ∧ IK W w') := fun W h1 h2 => mark14 W h2 h1 r hel hl
    obtain ⟨PQ, hpq⟩ : ∃ q, mkS eo ln false r = q := ⟨_, rfl⟩
    rw [hpq] at HMK ⊢
    clear hep hel ho hl hpl hpw hpq
    go_enter Tryz.func82, Tryz.ntmps82
    go_wp2_with (first | (go_at_call 89; refine (HPA.out _).mono ?_; rintro e wl ⟨rfl, hw9⟩; have hw8 := hw9.symm; subst hw8; clear hw9) | (go_at_call 90; refine (HEP.out _ (Nat.le_trans hN HB.out.size) (HV.out.below HB.out) HR.out).mono ?_; rintro e w2 ⟨rfl, hr2, hb2, hi2⟩; replace HR := hide hr2; replace HI := hide (HI.out.trans hi2); replace HB := hide (HB.out.trans hb2); clear hr2 hb2 hi2) | (go_at_call 91; refine (HMK.out _ (Nat.le_trans hN HB.out.size) HR.out).mono ?_; rintro e w3 ⟨rfl, hr2, hb2, hi2⟩; replace HR := hide hr2; replace HI := hide (HI.out.trans hi2); replace HB := hide (HB.out.trans hb2); clear hr2 hb2 hi2))
    go_ret
    exact ⟨rfl, HR.out, HB.out, HI.out⟩
   ·rw [if_neg h0]
    have g0 : (ec != 0) = true := by simpa using h0
    clear hep hel ho hl hpl hpw h0
    go_enter Tryz.func82, Tryz.ntmps82
    go_wp2_with (first | (go_at_call 89; refine (HPA.out _).mono ?_; rintro e wl ⟨rfl, hw9⟩; have hw8 := hw9.symm; subst hw8; clear hw9) | (go_at_call 90; refine (HEP.out _ (Nat.le_trans hN HB.out.size) (HV.out.below HB.out) HR.out).mono ?_; rintro e w2 ⟨rfl, hr2, hb2, hi2⟩; replace HR := hide hr2; replace HI := hide (HI.out.trans hi2); replace HB := hide (HB.out.trans hb2); clear hr2 hb2 hi2))
    go_ret
    exact ⟨rfl, HR.out, HB.out, HI.out⟩
  ·have h10 : r = 10 := by
    by_cases e : r = 10
    ·exact e
    ·exact absurd ⟨rfl, e⟩ h1
   subst h10
   clear hx ht hp hnx h1 hw
   have HEP : Hid (∀ W, N ≤ W.heap.size → LVN N W → RD14 N W d out ln pt true → Calls Tryz.prog 90 #[.pointer (some ⟨d, 0, none⟩)] W fun e w' => e = .returned (.int .i64 (epS out ln pt).1) ∧ RD14 N w' d (epS out ln pt).2 ln [] true ∧ Below N W w' ∧ IK W w') := fun W h1 h2 h3 => endPart14 W h3 h1 h2 ho hpl hpw
   have hel := epS_len ho ln pt
   obtain ⟨⟨ec, eo⟩, hep⟩ : ∃ q, epS out ln pt = q := ⟨_, rfl⟩
   rw [hep] at HEP hel ⊢
   by_cases h0 : ec = 0
   ·subst h0
    rw [if_pos rfl]
    have HMK : Hid (∀ W, N ≤ W.heap.size → RD14 N W d eo ln [] true → Calls Tryz.prog 91 #[.pointer (some ⟨d, 0, none⟩), .int .i32 10] W fun e w' => e = .returned (.int .i64 (mkS eo ln true 10).1) ∧ RD14 N w' d (mkS eo ln true 10).2.1 (mkS eo ln true 10).2.2.1 [] (mkS eo ln true 10).2.2.2 ∧ Below N W w' ∧ IK W w') := fun W h1 h2 => mark14 W h2 h1 10 hel hl
    obtain ⟨PQ, hpq⟩ : ∃ q, mkS eo ln true 10 = q := ⟨_, rfl⟩
    rw [hpq] at HMK ⊢
    clear hep hel ho hl hpl hpw hpq
    go_enter Tryz.func82, Tryz.ntmps82
    go_wp2_with (first | (go_at_call 89; refine (HPA.out _).mono ?_; rintro e wl ⟨rfl, hw9⟩; have hw8 := hw9.symm; subst hw8; clear hw9) | (go_at_call 90; refine (HEP.out _ (Nat.le_trans hN HB.out.size) (HV.out.below HB.out) HR.out).mono ?_; rintro e w2 ⟨rfl, hr2, hb2, hi2⟩; replace HR := hide hr2; replace HI := hide (HI.out.trans hi2); replace HB := hide (HB.out.trans hb2); clear hr2 hb2 hi2) | (go_at_call 91; refine (HMK.out _ (Nat.le_trans hN HB.out.size) HR.out).mono ?_; rintro e w3 ⟨rfl, hr2, hb2, hi2⟩; replace HR := hide hr2; replace HI := hide (HI.out.trans hi2); replace HB := hide (HB.out.trans hb2); clear hr2 hb2 hi2))
    go_ret
    exact ⟨rfl, HR.out, HB.out, HI.out⟩
   ·rw [if_neg h0]
    have g0 : (ec != 0) = true := by simpa using h0
    clear hep hel ho hl hpl hpw h0
    go_enter Tryz.func82, Tryz.ntmps82
    go_wp2_with (first | (go_at_call 89; refine (HPA.out _).mono ?_; rintro e wl ⟨rfl, hw9⟩; have hw8 := hw9.symm; subst hw8; clear hw9) | (go_at_call 90; refine (HEP.out _ (Nat.le_trans hN HB.out.size) (HV.out.below HB.out) HR.out).mono ?_; rintro e w2 ⟨rfl, hr2, hb2, hi2⟩; replace HR := hide hr2; replace HI := hide (HI.out.trans hi2); replace HB := hide (HB.out.trans hb2); clear hr2 hb2 hi2))
    go_ret
    exact ⟨rfl, HR.out, HB.out, HI.out⟩
 ·rw [if_pos rfl]
  rw [hw] at HPA
  have hrf : rm = false := by
   cases rm
   ·rfl
   ·exact absurd ⟨rfl, fun e => by rw [e] at hw; exact absurd hw (by decide)⟩ h1
  subst hrf
  clear hnx h1 hw
  obtain ⟨pP, cP, rfl, _, _⟩ := hp.open encRn_len
  have HX := hide hx
  have HT := hide ht
  have HP := hide hp
  have BA := hide (bel1 w (.cells #[.int .i32 r] 21))
  have x2 := hx.cell 2 _ rfl
  have x2b := (hx.below BA.out).cell 2 _ rfl
  clear hx ht hp HR
  go_enter Tryz.func82, Tryz.ntmps82
  go_wp2_with (first | (go_at_call 89; refine (HPA.out _).mono ?_; rintro e wl ⟨rfl, hw9⟩; have hw8 := hw9.symm; subst hw8; clear hw9) | (at_builtin; refine Stop.at ?_))
  unfold Stop
  refine append_rows rfl _ _ 107 rfl Tryz.underlying107 Tryz.infoRn rfl (by decide) (by decide) encRn_len encRn_one N _ pt [r] rfl (HP.out.below BA.out) (some ⟨w.heap.size, 0, none⟩) 1 1 rfl (fun h => by cases h) (RS.new encRn_len w _ rfl [r] _ rfl _ _ 1 rfl (by decide)) (by simp; omega) (Nat.le_trans hN BA.out.size) ?_
  intro v5 w5 ho5 hgr5 hbel5
  have HX5 := hide ((HX.out.below BA.out).grown hgr5 (HP.out.off HX.out tyIR))
  have HT5 := hide ((HT.out.below BA.out).grown hgr5 (fun g e => (HT.out.apart HP.out tyTI g e)))
  have HI5 := hide ((IK.below BA.out).trans ((HP.out.below BA.out).ik hgr5))
  have HB5 := hide (hbel5 _ (byR N hN _))
  have HO5 := hide ho5
  obtain ⟨p5, c5, hv5, _, _⟩ := ho5.open encRn_len
  subst hv5
  rw [show (pt ++ [r]).length = pt.length + 1 by simp] at HO5 ⊢
  have x5 := HX5.out.cell 2 _ rfl
  have y5 := HX5.out.free 2
  clear ho5 hgr5 hbel5 x2 x2b x3
  go_wp2
  go_ret
  exact ⟨rfl, ⟨hd, _, _, HX5.out.set 2 _, HT5.out.set (HT5.out.off HX5.out tyTR) 2 _, HO5.out.set (HO5.out.off HX5.out tyIR) 2 _⟩, HB5.out.setCell (p := ⟨d, 2, none⟩) hd _, HI5.out.trans (IK.set _ _ _)⟩
set_option maxHeartbeats 4000000 in
theorem end14 {N d : Nat} {out : List Tk} {ln : Int} {pt : List Int} {rm : Bool} (w : World) (hr : RD14 N w d out ln pt rm) (hN : N ≤ w.heap.size) (hv : LVN N w) (ho : out.length ≤ 800) (hpl : pt.length ≤ 5000) (hpw : ∀ c ∈ pt, isWd c = true) : Calls Tryz.prog 83 #[.pointer (some ⟨d, 0, none⟩)] w fun e w' => e = .returned (.int .i64 (endS out ln pt).1) ∧ RD14 N w' d (endS out ln pt).2 ln [] rm ∧ Below N w w' ∧ IK w w' := by
 have HV := hide hv
 clear hv
 have HR := hide hr
 have HB : Hid (Below N w w) := Below.refl _ _
 have HI : Hid (IK w w) := IK.refl _
 clear hr
 unfold endS
 have HEP : Hid (∀ W, N ≤ W.heap.size → LVN N W → RD14 N W d out ln pt rm → Calls Tryz.prog 90 #[.pointer (some ⟨d, 0, none⟩)] W fun e w' => e = .returned (.int .i64 (epS out ln pt).1) ∧ RD14 N w' d (epS out ln pt).2 ln [] rm ∧ Below N W w' ∧ IK W w') := fun W h1 h2 h3 => endPart14 W h3 h1 h2 ho hpl hpw
 have hel := epS_len ho ln pt
 obtain ⟨⟨ec, eo⟩, hep⟩ : ∃ q, epS out ln pt = q := ⟨_, rfl⟩
 rw [hep] at HEP hel ⊢
 by_cases h0 : ec = 0
 ·subst h0
  rw [if_pos rfl]
  have HPT : Hid (∀ W, N ≤ W.heap.size → RD14 N W d eo ln [] rm → Calls Tryz.prog 92 #[.pointer (some ⟨d, 0, none⟩), .agg #[.int .i64 0, .string ⟨#[]⟩, .int .i64 0, .int .i64 0]] W fun e w' => e = .returned (.int .i64 (ptS eo (0, ⟨#[]⟩, 0, ln)).1) ∧ RD14 N w' d (ptS eo (0, ⟨#[]⟩, 0, ln)).2 ln [] rm ∧ Below N W w' ∧ IK W w') := fun W h1 h2 => put14 W h2 h1 0 ⟨#[]⟩ 0 hel
  obtain ⟨PQ, hpq⟩ : ∃ q, ptS eo (0, (⟨#[]⟩ : ByteArray), (0 : Int), ln) = q := ⟨_, rfl⟩
  rw [hpq] at HPT ⊢
  clear hep hel ho hpl hpw hpq
  go_enter Tryz.func83, Tryz.ntmps83
  go_wp2_with (first | (go_at_call 90; refine (HEP.out _ (Nat.le_trans hN HB.out.size) (HV.out.below HB.out) HR.out).mono ?_; rintro e w2 ⟨rfl, hr2, hb2, hi2⟩; replace HR := hide hr2; replace HI := hide (HI.out.trans hi2); replace HB := hide (HB.out.trans hb2); clear hr2 hb2 hi2) | (go_at_call 92; refine (HPT.out _ (Nat.le_trans hN HB.out.size) HR.out).mono ?_; rintro e w3 ⟨rfl, hr2, hb2, hi2⟩; replace HR := hide hr2; replace HI := hide (HI.out.trans hi2); replace HB := hide (HB.out.trans hb2); clear hr2 hb2 hi2))
  go_ret
  exact ⟨rfl, HR.out, HB.out, HI.out⟩
 ·rw [if_neg h0]
  have g0 : (ec != 0) = true := by simpa using h0
  clear hep hel ho hpl hpw h0
  go_enter Tryz.func83, Tryz.ntmps83
  go_wp2_with (go_at_call 90; refine (HEP.out _ (Nat.le_trans hN HB.out.size) (HV.out.below HB.out) HR.out).mono ?_; rintro e w2 ⟨rfl, hr2, hb2, hi2⟩; replace HR := hide hr2; replace HI := hide (HI.out.trans hi2); replace HB := hide (HB.out.trans hb2); clear hr2 hb2 hi2)
  go_ret
  exact ⟨rfl, HR.out, HB.out, HI.out⟩
end Go.Proofs.YtomppblgalepjaaGreatDoor

