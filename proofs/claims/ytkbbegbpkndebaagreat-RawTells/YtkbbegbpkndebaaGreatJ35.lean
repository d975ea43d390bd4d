/- Texts of this claim, joined: Z3. -/
import Derived.Test.YtkbbegbpkndebaaGreatJ10
import Derived.Test.YtkbbegbpkndebaaGreatJ34
/- The document's Put of an entry with Live and Dead. -/
namespace Go.Proofs.YtkbbegbpkndebaaGreat
open Go.RowKit Go.Lib
set_option linter.unusedVariables false
def putQ (t : ByteArray) (l m : List Dot) : List En → List En → Bool → List En
 | [], out, d => if d then out else out ++ [(t, l, m)]
 | x :: r, out, d => putQ t l m r (if x.1 = t then (if !d && !ltK x.1 t then out ++ [(t, l, m)] else out) else (if !d && !ltK x.1 t then out ++ [(t, l, m)] else out) ++ [x]) (d || !ltK x.1 t)
theorem putQ_done (t : ByteArray) (l m : List Dot) : ∀ (s out : List En), putQ t l m s out true = out ++ s.filter (fun x => decide (x.1 ≠ t))
 | [], out => by simp [putQ]
 | x :: r, out => by
  rw [putQ]
  simp only [Bool.not_true, Bool.false_and, Bool.false_eq_true, if_false, Bool.true_or]
  rw [putQ_done t l m r]
  by_cases h : x.1 = t
  ·simp [h]
  ·simp [h]
theorem putQ_not (t : ByteArray) (l m : List Dot) : ∀ (s out : List En), SrtK s → putQ t l m s out false = out ++ s.filter (fun x => ltK x.1 t) ++ [(t, l, m)] ++ s.filter (fun x => ltK t x.1)
 | [], out, _ => by simp [putQ]
 | x :: r, out, hs => by
  obtain ⟨h1, h2⟩ := List.pairwise_cons.1 hs
  rw [putQ]
  rcases hb : ltK x.1 t with _ | _
  ·have no : r.filter (fun y => ltK y.1 t) = [] := by
    rw [List.filter_eq_nil_iff]
    intro y hy h
    have := ltK_trans (h1 y hy) h
    rw [hb] at this
    cases this
   simp only [Bool.not_false, Bool.true_and, if_true, Bool.or_true]
   rw [putQ_done, ne_parts h2, no]
   rcases hc : ltK t x.1 with _ | _
   ·have e := ltK_tri hb hc
    simp [e, no, ltK_irr]
   ·have e : x.1 ≠ t := (ltK_ne hc).symm
    simp [e, hb, hc, no]
  ·have e : x.1 ≠ t := ltK_ne hb
   have hc := ltK_asym hb
   simp only [Bool.not_true, Bool.and_false, Bool.false_eq_true, if_false, e, Bool.or_false]
   rw [putQ_not t l m r _ h2]
   simp [hb, hc]
theorem putQ_is {s : List En} (hs : SrtK s) (t : ByteArray) (l m : List Dot) : putQ t l m s [] (decide ((l, m) = (([], []) : Pr))) = putP s t (l, m) := by
 unfold putP
 by_cases h : (l, m) = (([], []) : Pr)
 ·rw [decide_eq_true h, putQ_done, ne_parts hs, if_pos h]
  simp
 ·rw [decide_eq_false h, putQ_not t l m s [] hs, if_neg h]
  simp
theorem putQ_len (t : ByteArray) (l m : List Dot) : ∀ (s out : List En) (d : Bool), out.length ≤ (putQ t l m s out d).length
 | [], out, d => by rw [putQ]; split <;> simp
 | x :: r, out, d => by
  rw [putQ]
  refine Nat.le_trans ?_ (putQ_len t l m r _ _)
  split <;> split <;> simp <;> omega
set_option maxHeartbeats 8000000 in
theorem PutP_ref (a : Option Addr) (n cap : Nat) (s : List En) (t : ByteArray) (pv : Option Addr) (nv cv : Nat) (l : List Dot) (pm : Option Addr) (nm cm : Nat) (m : List Dot) (w : World) (hA : NSS w a n s) (hS : SrtK s) (hL : DS w pv nv l) (hC : CP pv nv cv) (hLM : DS w pm nm m) (hCM : CP pm nm cm) (hn : n ≤ 100000) (hm : nv ≤ 100000) (hm2 : nm ≤ 100000) :
  Calls Tryz.prog 108 #[.slice a n cap, .agg #[.string t, .slice pv nv cv, .slice pm nm cm]] w fun e w' => ∃ p cp, e = .returned (.slice p (putP s t (l, m)).length cp) ∧ NSS w' p (putP s t (l, m)).length (putP s t (l, m)) ∧ CP p (putP s t (l, m)).length cp ∧ Below w.heap.size w w' := by
 have HLEN := hide hA.len
 have HLN := hide hL.1
 have HLN2 := hide hLM.1
 have HPS := hide (putQ_is hS t l m)
 have HPL : Hid ((putP s t (l, m)).length ≤ n + 1) := by rw [← hA.len]; exact putP_len s t (l, m)
 go_enter Tryz.func108, Tryz.ntmps108
 go_upto_region 1 with fail
 have HB0 := hide (bel1 w (.cells #[.string t, .slice pv nv cv, .slice pm nm cm] 125))
 have E0 := hide (cell_new w #[.string t, .slice pv nv cv, .slice pm nm cm] 125 _ rfl 0 _ rfl)
 have E1 := hide (cell_new w #[.string t, .slice pv nv cv, .slice pm nm cm] 125 _ rfl 1 _ rfl)
 have E2 := hide (cell_new w #[.string t, .slice pv nv cv, .slice pm nm cm] 125 _ rfl 2 _ rfl)
 have HV := hide (hA.below HB0.out)
 have HL := hide (hL.below HB0.out)
 have HCL := hide hC
 have HLM := hide (hLM.below HB0.out)
 have HCM := hide hCM
 clear hA hL hC hS hLM hCM
 generalize hgb : w.heap.size = gb at E0 E1 E2 ⊢
 generalize w.alloc (.cells #[.string t, .slice pv nv cv, .slice pm nm cm] 125) = w0 at *
 have hd0 : ((nv : Int) + (nm : Int) == 0) = decide ((l, m) = (([], []) : Pr)) := by
  rw [Bool.eq_iff_iff, beq_iff_eq, decide_eq_true_iff]
  have h1 := HLN.out
  have h2 := HLN2.out
  constructor
  ·intro h
   rw [List.eq_nil_of_length_eq_zero (show l.length = 0 by omega), List.eq_nil_of_length_eq_zero (show m.length = 0 by omega)]
  ·intro h
   rw [Prod.mk.injEq] at h
   rw [h.1] at h1
   rw [h.2] at h2
   simp at h1 h2
   omega
 have e1 := E1.out
 have e2 := E2.out
 have HO0 := hide (ON.made w0 w0.heap.size w0.heap.size rfl (Nat.le_refl _))
 have HB1 := hide (bel1 w0 (.cells #[] 125))
 replace e1 := bcell HB1.out e1
 replace e2 := bcell HB1.out e2
 generalize hdd : decide ((l, m) = (([], []) : Pr)) = dd at *
 clear hdd
 go_wp2
 clear e1 e2
 go_loopw [5, 6, 7] (fun V vd i wr => ∃ (k : Nat) (out : List En) (d : Bool), k ≤ n ∧ i = .int .i64 k ∧ vd = .bool d ∧ Hid (ON w0.heap.size wr V out) ∧ Hid (putQ t l m (s.drop k) out d = putP s t (l, m)) ∧ Hid (Below w0.heap.size w0 wr)) (fun _ _ i _ => n - (intOf i).toNat)
 case atStart => exact ⟨0, [], dd, by omega, rfl, rfl, HO0, HPS, HB1⟩
 case round =>
  clear HO0 HB1 hd0
  obtain ⟨k0, out, d, hk, rfl, rfl, HO, HPF, HB⟩ := hrel
  by_cases hlt : k0 < n
  ·obtain ⟨b, off, rfl⟩ := HV.out.addr (by omega)
   obtain ⟨k, pl, nl, cl, pd, nd, cd, ll, mm, hx, q0, q1, q2, h1, h2, h3, h4⟩ := HV.out.at k0 hlt
   have C0 := hide q0
   have C1 := hide q1
   have C2 := hide q2
   have HX := hide hx
   have HXL := hide h1
   have HXC := hide h2
   have HXD := hide h3
   have HXE := hide h4
   have HLO : Hid (out.length ≤ n + 1) := by
    have := putQ_len t l m (s.drop k0) out d
    rw [HPF.out] at this
    exact Nat.le_trans this HPL.out
   have hk0 : (0 : Int) ≤ (k0 : Int) := by omega
   have hk1 : (k0 : Int) < (n : Int) := by omega
   clear hx q0 q1 q2 h1 h2 h3 h4
   rcases hq : Op.bytesLess k.toList t.toList with _ | _
   ·have hl : ltK k t = false := hq
    by_cases hk : k = t
    ·obtain rfl : t = k := hk.symm
     have hqe : (t.toList == t.toList) = true := by rw [eqK, decide_eq_true rfl]
     clear hk
     cases d
     ·have HPF2 : Hid (putQ t l m (s.drop (k0 + 1)) (out ++ [(t, l, m)]) true = putP s t (l, m)) := by
       have q := HPF.out
       unfold Hid
       rw [List.drop_eq_getElem_cons (by rw [HLEN.out]; exact hlt), (List.getElem?_eq_some_iff.1 HX.out).2, putQ] at q
       simpa [ltK_irr] using q
      have c0 := bcell HB.out C0.out
      have c1 := bcell HB.out C1.out
      have c2 := bcell HB.out C2.out
      have x0 := bcell HB.out E0.out
      have x1 := bcell HB.out E1.out
      have x2 := bcell HB.out E2.out
      go_upto_region 6 with fail
      refine wp_region_held_drew (S := fun W => Below wr.heap.size wr W) (by kernel_rfl) ((Below.refl _ wr).drew) (fun hS0 => ?_)
      refine tkJ 0 23 hS0 ?_; simp only [ly]
      refine tkJ 1 24 hS0 ?_; simp only [ly]
      refine tkJ 2 25 hS0 ?_; simp only [ly]
      refine tkJ 3 26 hS0 ?_; simp only [ly]
      refine tkJ 4 27 hS0 ?_; simp only [ly]
      refine tkJ 5 28 hS0 ?_; simp only [ly]
      refine tkJ 6 29 hS0 ?_; simp only [ly]
      refine tkL 7 30 hS0 ?h ?_; case h => (intro W hW; have e0 := bcell hW c0; have e1 := bcell hW x0; clear hW; go_simp; try rfl); simp only [ly]
      refine tkJ 8 31 hS0 ?_; simp only [ly]
      refine tkL 9 32 hS0 ?h ?_; case h => (intro W hW; have e0 := bcell hW c0; have e1 := bcell hW x0; clear hW; go_simp; try rfl); simp only [ly]
      refine tkJ 10 33 hS0 ?_; simp only [ly]
      refine tkJ 11 34 hS0 ?_; simp only [ly]
      refine wpAnyH_done (by kernel_rfl) ?_ _
      replace HO := hide (HO.out.below hS0)
      replace HB := hide (bel_next HB.out hS0)
      clear hS0 c0 c1 c2 x0 x1 x2
      generalize wr.drew = wq at *
      have c0 := bcell HB.out C0.out
      have c1 := bcell HB.out C1.out
      have c2 := bcell HB.out C2.out
      have x0 := bcell HB.out E0.out
      have x1 := bcell HB.out E1.out
      have x2 := bcell HB.out E2.out
      go_wp2_with (at_builtin; refine Stop.at ?_)
      unfold Stop
      have HBq := hide (bel1 wq (.cells #[.string t, .slice pv nv cv, .slice pm nm cm] 125))
      have HB3 := hide (bel_next HB.out HBq.out)
      refine append_en rfl _ _ rfl w0.heap.size _ _ [(t, l, m)] rfl (HO.out.below HBq.out) (some ⟨wq.heap.size, 0, none⟩) 1 1 rfl (fun h => by cases h) [(t, (pv, nv, cv), (pm, nm, cm))] (RSN.one wq (t, (pv, nv, cv), (pm, nm, cm)) _ rfl 125 (0, 0)) (Rels.one ⟨rfl, ⟨HL.out.below HB3.out, HCL.out⟩, ⟨HLM.out.below HB3.out, HCM.out⟩⟩) (fun y hy => by
       rw [List.mem_singleton] at hy
       subst hy
       exact ⟨Lo.old HL.out (Nat.le_refl _) HB3.out.size, Lo.old HLM.out (Nat.le_refl _) HB3.out.size⟩) (by have := HLO.out; first | (rw [List.length_singleton]; omega) | (rw [List.length_append, List.length_singleton, List.length_singleton]; omega)) HB3.out.size ?_
      intro v3 w3 ho3 _ hbel3
      replace HO := hide ho3
      replace HB := hide (hbel3 _ HB3.out)
      clear ho3 hbel3 HB3 HBq
      clear c0 c1 c2 x0 x1 x2
      generalize hwq2 : w3 = wr2 at *
      clear hwq2
      have c0 := bcell HB.out C0.out
      have c1 := bcell HB.out C1.out
      have c2 := bcell HB.out C2.out
      have x0 := bcell HB.out E0.out
      have x1 := bcell HB.out E1.out
      have x2 := bcell HB.out E2.out
      go_upto_region 9 with fail
      refine wp_region_held_drew (S := fun W => Below wr2.heap.size wr2 W) (by kernel_rfl) ((Below.refl _ wr2).drew) (fun hS0 => ?_)
      refine tkJ 0 39 hS0 ?_; simp only [ly]
      refine tkJ 1 40 hS0 ?_; simp only [ly]
      refine tkJ 2 41 hS0 ?_; simp only [ly]
      refine tkJ 3 42 hS0 ?_; simp only [ly]
      refine tkL 4 43 hS0 ?h ?_; case h => (intro W hW; have e0 := bcell hW c0; have e1 := bcell hW x0; clear hW; go_simp; try rfl); simp only [ly]
      refine tkJ 5 44 hS0 ?_; simp only [ly]
      refine tkL 6 45 hS0 ?h ?_; case h => (intro W hW; have e0 := bcell hW c0; have e1 := bcell hW x0; clear hW; go_simp; try rfl); simp only [ly]
      refine tkJ 7 46 hS0 ?_; simp only [ly]
      refine wpAnyH_done (by kernel_rfl) ?_ _
      replace HO := hide (HO.out.below hS0)
      replace HB := hide (bel_next HB.out hS0)
      clear hS0 c0 c1 c2 x0 x1 x2
      generalize wr2.drew = wq2 at *
      go_wp2
      go_roundw
      case rel => exact ⟨k0 + 1, _, true, by omega, by go_num, rfl, HO, HPF2, HB⟩
      case measure => simp [intOf]; omega
     ·have HPF2 : Hid (putQ t l m (s.drop (k0 + 1)) out true = putP s t (l, m)) := by
       have q := HPF.out
       unfold Hid
       rw [List.drop_eq_getElem_cons (by rw [HLEN.out]; exact hlt), (List.getElem?_eq_some_iff.1 HX.out).2, putQ] at q
       simpa [ltK_irr] using q
      have c0 := bcell HB.out C0.out
      have c1 := bcell HB.out C1.out
      have c2 := bcell HB.out C2.out
      have x0 := bcell HB.out E0.out
      have x1 := bcell HB.out E1.out
      have x2 := bcell HB.out E2.out
      go_upto_region 6 with fail
      refine wp_region_held_drew (S := fun W => Below wr.heap.size wr W) (by kernel_rfl) ((Below.refl _ wr).drew) (fun hS0 => ?_)
      refine tkJ 0 23 hS0 ?_; simp only [ly]
      refine tkJ 1 24 hS0 ?_; simp only [ly]
      refine tkJ 2 25 hS0 ?_; simp only [ly]
      refine tkM 3 26 hS0 ?_; simp only [ly]
      refine tkM 4 27 hS0 ?_; simp only [ly]
      refine tkM 5 28 hS0 ?_; simp only [ly]
      refine tkM 6 29 hS0 ?_; simp only [ly]
      refine tkM 7 30 hS0 ?_; simp only [ly]
      refine tkM 8 31 hS0 ?_; simp only [ly]
      refine tkM 9 32 hS0 ?_; simp only [ly]
      refine tkM 10 33 hS0 ?_; simp only [ly]
      refine tkJ 11 34 hS0 ?_; simp only [ly]
      refine wpAnyH_done (by kernel_rfl) ?_ _
      replace HO := hide (HO.out.below hS0)
      replace HB := hide (bel_next HB.out hS0)
      clear hS0 c0 c1 c2 x0 x1 x2
      generalize wr.drew = wq at *
      have c0 := bcell HB.out C0.out
      have c1 := bcell HB.out C1.out
      have c2 := bcell HB.out C2.out
      have x0 := bcell HB.out E0.out
      have x1 := bcell HB.out E1.out
      have x2 := bcell HB.out E2.out
      go_upto_region 9 with fail
      refine wp_region_held_drew (S := fun W => Below wq.heap.size wq W) (by kernel_rfl) ((Below.refl _ wq).drew) (fun hS0 => ?_)
      refine tkJ 0 39 hS0 ?_; simp only [ly]
      refine tkJ 1 40 hS0 ?_; simp only [ly]
      refine tkJ 2 41 hS0 ?_; simp only [ly]
      refine tkJ 3 42 hS0 ?_; simp only [ly]
      refine tkL 4 43 hS0 ?h ?_; case h => (intro W hW; have e0 := bcell hW c0; have e1 := bcell hW x0; clear hW; go_simp; try rfl); simp only [ly]
      refine tkJ 5 44 hS0 ?_; simp only [ly]
      refine tkL 6 45 hS0 ?h ?_; case h => (intro W hW; have e0 := bcell hW c0; have e1 := bcell hW x0; clear hW; go_simp; try rfl); simp only [ly]
      refine tkJ 7 46 hS0 ?_; simp only [ly]
      refine wpAnyH_done (by kernel_rfl) ?_ _
      replace HO := hide (HO.out.below hS0)
      replace HB := hide (bel_next HB.out hS0)
      clear hS0 c0 c1 c2 x0 x1 x2
      generalize wq.drew = wq2 at *
      go_wp2
      go_roundw
      case rel => exact ⟨k0 + 1, _, true, by omega, by go_num, rfl, HO, HPF2, HB⟩
      case measure => simp [intOf]; omega
    ·have hqe : (k.toList == t.toList) = false := by rw [eqK, decide_eq_false hk]
     cases d
     ·have HPF2 : Hid (putQ t l m (s.drop (k0 + 1)) ((out ++ [(t, l, m)]) ++ [(k, ll, mm)]) true = putP s t (l, m)) := by
       have q := HPF.out
       unfold Hid
       rw [List.drop_eq_getElem_cons (by rw [HLEN.out]; exact hlt), (List.getElem?_eq_some_iff.1 HX.out).2, putQ] at q
       simpa [hk, hl] using q
      have c0 := bcell HB.out C0.out
      have c1 := bcell HB.out C1.out
      have c2 := bcell HB.out C2.out
      have x0 := bcell HB.out E0.out
      have x1 := bcell HB.out E1.out
      have x2 := bcell HB.out E2.out
      go_upto_region 6 with fail
      refine wp_region_held_drew (S := fun W => Below wr.heap.size wr W) (by kernel_rfl) ((Below.refl _ wr).drew) (fun hS0 => ?_)
      refine tkJ 0 23 hS0 ?_; simp only [ly]
      refine tkJ 1 24 hS0 ?_; simp only [ly]
      refine tkJ 2 25 hS0 ?_; simp only [ly]
      refine tkJ 3 26 hS0 ?_; simp only [ly]
      refine tkJ 4 27 hS0 ?_; simp only [ly]
      refine tkJ 5 28 hS0 ?_; simp only [ly]
      refine tkJ 6 29 hS0 ?_; simp only [ly]
      refine tkL 7 30 hS0 ?h ?_; case h => (intro W hW; have e0 := bcell hW c0; have e1 := bcell hW x0; clear hW; go_simp; try rfl); simp only [ly]
      refine tkJ 8 31 hS0 ?_; simp only [ly]
      refine tkL 9 32 hS0 ?h ?_; case h => (intro W hW; have e0 := bcell hW c0; have e1 := bcell hW x0; clear hW; go_simp; try rfl); simp only [ly]
      refine tkJ 10 33 hS0 ?_; simp only [ly]
      refine tkJ 11 34 hS0 ?_; simp only [ly]
      refine wpAnyH_done (by kernel_rfl) ?_ _
      replace HO := hide (HO.out.below hS0)
      replace HB := hide (bel_next HB.out hS0)
      clear hS0 c0 c1 c2 x0 x1 x2
      generalize wr.drew = wq at *
      have c0 := bcell HB.out C0.out
      have c1 := bcell HB.out C1.out
      have c2 := bcell HB.out C2.out
      have x0 := bcell HB.out E0.out
      have x1 := bcell HB.out E1.out
      have x2 := bcell HB.out E2.out
      go_wp2_with (at_builtin; refine Stop.at ?_)
      unfold Stop
      have HBq := hide (bel1 wq (.cells #[.string t, .slice pv nv cv, .slice pm nm cm] 125))
      have HB3 := hide (bel_next HB.out HBq.out)
      refine append_en rfl _ _ rfl w0.heap.size _ _ [(t, l, m)] rfl (HO.out.below HBq.out) (some ⟨wq.heap.size, 0, none⟩) 1 1 rfl (fun h => by cases h) [(t, (pv, nv, cv), (pm, nm, cm))] (RSN.one wq (t, (pv, nv, cv), (pm, nm, cm)) _ rfl 125 (0, 0)) (Rels.one ⟨rfl, ⟨HL.out.below HB3.out, HCL.out⟩, ⟨HLM.out.below HB3.out, HCM.out⟩⟩) (fun y hy => by
       rw [List.mem_singleton] at hy
       subst hy
       exact ⟨Lo.old HL.out (Nat.le_refl _) HB3.out.size, Lo.old HLM.out (Nat.le_refl _) HB3.out.size⟩) (by have := HLO.out; first | (rw [List.length_singleton]; omega) | (rw [List.length_append, List.length_singleton, List.length_singleton]; omega)) HB3.out.size ?_
      intro v3 w3 ho3 _ hbel3
      replace HO := hide ho3
      replace HB := hide (hbel3 _ HB3.out)
      clear ho3 hbel3 HB3 HBq
      clear c0 c1 c2 x0 x1 x2
      generalize hwq2 : w3 = wr2 at *
      clear hwq2
      have c0 := bcell HB.out C0.out
      have c1 := bcell HB.out C1.out
      have c2 := bcell HB.out C2.out
      have x0 := bcell HB.out E0.out
      have x1 := bcell HB.out E1.out
      have x2 := bcell HB.out E2.out
      go_upto_region 9 with fail
      refine wp_region_held_drew (S := fun W => Below wr2.heap.size wr2 W) (by kernel_rfl) ((Below.refl _ wr2).drew) (fun hS0 => ?_)
      refine tkJ 0 39 hS0 ?_; simp only [ly]
      refine tkJ 1 40 hS0 ?_; simp only [ly]
      refine tkJ 2 41 hS0 ?_; simp only [ly]
      refine tkJ 3 42 hS0 ?_; simp only [ly]
      refine tkL 4 43 hS0 ?h ?_; case h => (intro W hW; have e0 := bcell hW c0; have e1 := bcell hW x0; clear hW; go_simp; try rfl); simp only [ly]
      refine tkJ 5 44 hS0 ?_; simp only [ly]
      refine tkL 6 45 hS0 ?h ?_; case h => (intro W hW; have e0 := bcell hW c0; have e1 := bcell hW x0; clear hW; go_simp; try rfl); simp only [ly]
      refine tkJ 7 46 hS0 ?_; simp only [ly]
      refine wpAnyH_done (by kernel_rfl) ?_ _
      replace HO := hide (HO.out.below hS0)
      replace HB := hide (bel_next HB.out hS0)
      clear hS0 c0 c1 c2 x0 x1 x2
      generalize wr2.drew = wq2 at *
      have c0 := bcell HB.out C0.out
      have c1 := bcell HB.out C1.out
      have c2 := bcell HB.out C2.out
      have x0 := bcell HB.out E0.out
      have x1 := bcell HB.out E1.out
      have x2 := bcell HB.out E2.out
      go_wp2_with (at_builtin; refine Stop.at ?_)
      unfold Stop
      have HBq := hide (bel1 wq2 (.cells #[.string k, .slice pl nl cl, .slice pd nd cd] 125))
      have HB3 := hide (bel_next HB.out HBq.out)
      refine append_en rfl _ _ rfl w0.heap.size _ _ [(k, ll, mm)] rfl (HO.out.below HBq.out) (some ⟨wq2.heap.size, 0, none⟩) 1 1 rfl (fun h => by cases h) [(k, (pl, nl, cl), (pd, nd, cd))] (RSN.one wq2 (k, (pl, nl, cl), (pd, nd, cd)) _ rfl 125 (0, 0)) (Rels.one ⟨rfl, ⟨HXL.out.below HB3.out, HXC.out⟩, ⟨HXD.out.below HB3.out, HXE.out⟩⟩) (fun y hy => by
       rw [List.mem_singleton] at hy
       subst hy
       exact ⟨Lo.old HXL.out (Nat.le_refl _) HB3.out.size, Lo.old HXD.out (Nat.le_refl _) HB3.out.size⟩) (by have := HLO.out; first | (rw [List.length_singleton]; omega) | (rw [List.length_append, List.length_singleton, List.length_singleton]; omega)) HB3.out.size ?_
      intro v3 w3 ho3 _ hbel3
      replace HO := hide ho3
      replace HB := hide (hbel3 _ HB3.out)
      clear ho3 hbel3 HB3 HBq
      clear c0 c1 c2 x0 x1 x2
      go_wp2
      go_roundw
      case rel => exact ⟨k0 + 1, _, true, by omega, by go_num, rfl, HO, HPF2, HB⟩
      case measure => simp [intOf]; omega
     ·have HPF2 : Hid (putQ t l m (s.drop (k0 + 1)) (out ++ [(k, ll, mm)]) true = putP s t (l, m)) := by
       have q := HPF.out
       unfold Hid
       rw [List.drop_eq_getElem_cons (by rw [HLEN.out]; exact hlt), (List.getElem?_eq_some_iff.1 HX.out).2, putQ] at q
       simpa [hk] using q
      have c0 := bcell HB.out C0.out
      have c1 := bcell HB.out C1.out
      have c2 := bcell HB.out C2.out
      have x0 := bcell HB.out E0.out
      have x1 := bcell HB.out E1.out
      have x2 := bcell HB.out E2.out
      go_upto_region 6 with fail
      refine wp_region_held_drew (S := fun W => Below wr.heap.size wr W) (by kernel_rfl) ((Below.refl _ wr).drew) (fun hS0 => ?_)
      refine tkJ 0 23 hS0 ?_; simp only [ly]
      refine tkJ 1 24 hS0 ?_; simp only [ly]
      refine tkJ 2 25 hS0 ?_; simp only [ly]
      refine tkM 3 26 hS0 ?_; simp only [ly]
      refine tkM 4 27 hS0 ?_; simp only [ly]
      refine tkM 5 28 hS0 ?_; simp only [ly]
      refine tkM 6 29 hS0 ?_; simp only [ly]
      refine tkM 7 30 hS0 ?_; simp only [ly]
      refine tkM 8 31 hS0 ?_; simp only [ly]
      refine tkM 9 32 hS0 ?_; simp only [ly]
      refine tkM 10 33 hS0 ?_; simp only [ly]
      refine tkJ 11 34 hS0 ?_; simp only [ly]
      refine wpAnyH_done (by kernel_rfl) ?_ _
      replace HO := hide (HO.out.below hS0)
      replace HB := hide (bel_next HB.out hS0)
      clear hS0 c0 c1 c2 x0 x1 x2
      generalize wr.drew = wq at *
      have c0 := bcell HB.out C0.out
      have c1 := bcell HB.out C1.out
      have c2 := bcell HB.out C2.out
      have x0 := bcell HB.out E0.out
      have x1 := bcell HB.out E1.out
      have x2 := bcell HB.out E2.out
      go_upto_region 9 with fail
      refine wp_region_held_drew (S := fun W => Below wq.heap.size wq W) (by kernel_rfl) ((Below.refl _ wq).drew) (fun hS0 => ?_)
      refine tkJ 0 39 hS0 ?_; simp only [ly]
      refine tkJ 1 40 hS0 ?_; simp only [ly]
      refine tkJ 2 41 hS0 ?_; simp only [ly]
      refine tkJ 3 42 hS0 ?_; simp only [ly]
      refine tkL 4 43 hS0 ?h ?_; case h => (intro W hW; have e0 := bcell hW c0; have e1 := bcell hW x0; clear hW; go_simp; try rfl); simp only [ly]
      refine tkJ 5 44 hS0 ?_; simp only [ly]
      refine tkL 6 45 hS0 ?h ?_; case h => (intro W hW; have e0 := bcell hW c0; have e1 := bcell hW x0; clear hW; go_simp; try rfl); simp only [ly]
      refine tkJ 7 46 hS0 ?_; simp only [ly]
      refine wpAnyH_done (by kernel_rfl) ?_ _
      replace HO := hide (HO.out.below hS0)
      replace HB := hide (bel_next HB.out hS0)
      clear hS0 c0 c1 c2 x0 x1 x2
      generalize wq.drew = wq2 at *
      have c0 := bcell HB.out C0.out
      have c1 := bcell HB.out C1.out
      have c2 := bcell HB.out C2.out
      have x0 := bcell HB.out E0.out
      have x1 := bcell HB.out E1.out
      have x2 := bcell HB.out E2.out
      go_wp2_with (at_builtin; refine Stop.at ?_)
      unfold Stop
      have HBq := hide (bel1 wq2 (.cells #[.string k, .slice pl nl cl, .slice pd nd cd] 125))
      have HB3 := hide (bel_next HB.out HBq.out)
      refine append_en rfl _ _ rfl w0.heap.size _ _ [(k, ll, mm)] rfl (HO.out.below HBq.out) (some ⟨wq2.heap.size, 0, none⟩) 1 1 rfl (fun h => by cases h) [(k, (pl, nl, cl), (pd, nd, cd))] (RSN.one wq2 (k, (pl, nl, cl), (pd, nd, cd)) _ rfl 125 (0, 0)) (Rels.one ⟨rfl, ⟨HXL.out.below HB3.out, HXC.out⟩, ⟨HXD.out.below HB3.out, HXE.out⟩⟩) (fun y hy => by
       rw [List.mem_singleton] at hy
       subst hy
       exact ⟨Lo.old HXL.out (Nat.le_refl _) HB3.out.size, Lo.old HXD.out (Nat.le_refl _) HB3.out.size⟩) (by have := HLO.out; first | (rw [List.length_singleton]; omega) | (rw [List.length_append, List.length_singleton, List.length_singleton]; omega)) HB3.out.size ?_
      intro v3 w3 ho3 _ hbel3
      replace HO := hide ho3
      replace HB := hide (hbel3 _ HB3.out)
      clear ho3 hbel3 HB3 HBq
      clear c0 c1 c2 x0 x1 x2
      go_wp2
      go_roundw
      case rel => exact ⟨k0 + 1, _, true, by omega, by go_num, rfl, HO, HPF2, HB⟩
      case measure => simp [intOf]; omega
   ·have hl : ltK k t = true := hq
    have hk : k ≠ t := ltK_ne hl
    have hqe : (k.toList == t.toList) = false := by rw [eqK, decide_eq_false hk]
    cases d
    ·have HPF2 : Hid (putQ t l m (s.drop (k0 + 1)) (out ++ [(k, ll, mm)]) false = putP s t (l, m)) := by
      have q := HPF.out
      unfold Hid
      rw [List.drop_eq_getElem_cons (by rw [HLEN.out]; exact hlt), (List.getElem?_eq_some_iff.1 HX.out).2, putQ] at q
      simpa [hk, hl] using q
     have c0 := bcell HB.out C0.out
     have c1 := bcell HB.out C1.out
     have c2 := bcell HB.out C2.out
     have x0 := bcell HB.out E0.out
     have x1 := bcell HB.out E1.out
     have x2 := bcell HB.out E2.out
     go_upto_region 6 with fail
     refine wp_region_held_drew (S := fun W => Below wr.heap.size wr W) (by kernel_rfl) ((Below.refl _ wr).drew) (fun hS0 => ?_)
     refine tkJ 0 23 hS0 ?_; simp only [ly]
     refine tkJ 1 24 hS0 ?_; simp only [ly]
     refine tkJ 2 25 hS0 ?_; simp only [ly]
     refine tkJ 3 26 hS0 ?_; simp only [ly]
     refine tkJ 4 27 hS0 ?_; simp only [ly]
     refine tkJ 5 28 hS0 ?_; simp only [ly]
     refine tkJ 6 29 hS0 ?_; simp only [ly]
     refine tkL 7 30 hS0 ?h ?_; case h => (intro W hW; have e0 := bcell hW c0; have e1 := bcell hW x0; clear hW; go_simp; try rfl); simp only [ly]
     refine tkJ 8 31 hS0 ?_; simp only [ly]
     refine tkL 9 32 hS0 ?h ?_; case h => (intro W hW; have e0 := bcell hW c0; have e1 := bcell hW x0; clear hW; go_simp; try rfl); simp only [ly]
     refine tkJ 10 33 hS0 ?_; simp only [ly]
     refine tkJ 11 34 hS0 ?_; simp only [ly]
     refine wpAnyH_done (by kernel_rfl) ?_ _
     replace HO := hide (HO.out.below hS0)
     replace HB := hide (bel_next HB.out hS0)
     clear hS0 c0 c1 c2 x0 x1 x2
     generalize wr.drew = wq at *
     have c0 := bcell HB.out C0.out
     have c1 := bcell HB.out C1.out
     have c2 := bcell HB.out C2.out
     have x0 := bcell HB.out E0.out
     have x1 := bcell HB.out E1.out
     have x2 := bcell HB.out E2.out
     go_upto_region 9 with fail
     refine wp_region_held_drew (S := fun W => Below wq.heap.size wq W) (by kernel_rfl) ((Below.refl _ wq).drew) (fun hS0 => ?_)
     refine tkJ 0 39 hS0 ?_; simp only [ly]
     refine tkJ 1 40 hS0 ?_; simp only [ly]
     refine tkJ 2 41 hS0 ?_; simp only [ly]
     refine tkJ 3 42 hS0 ?_; simp only [ly]
     refine tkL 4 43 hS0 ?h ?_; case h => (intro W hW; have e0 := bcell hW c0; have e1 := bcell hW x0; clear hW; go_simp; try rfl); simp only [ly]
     refine tkJ 5 44 hS0 ?_; simp only [ly]
     refine tkL 6 45 hS0 ?h ?_; case h => (intro W hW; have e0 := bcell hW c0; have e1 := bcell hW x0; clear hW; go_simp; try rfl); simp only [ly]
     refine tkJ 7 46 hS0 ?_; simp only [ly]
     refine wpAnyH_done (by kernel_rfl) ?_ _
     replace HO := hide (HO.out.below hS0)
     replace HB := hide (bel_next HB.out hS0)
     clear hS0 c0 c1 c2 x0 x1 x2
     generalize wq.drew = wq2 at *
     have c0 := bcell HB.out C0.out
     have c1 := bcell HB.out C1.out
     have c2 := bcell HB.out C2.out
     have x0 := bcell HB.out E0.out
     have x1 := bcell HB.out E1.out
     have x2 := bcell HB.out E2.out
     go_wp2_with (at_builtin; refine Stop.at ?_)
     unfold Stop
     have HBq := hide (bel1 wq2 (.cells #[.string k, .slice pl nl cl, .slice pd nd cd] 125))
     have HB3 := hide (bel_next HB.out HBq.out)
     refine append_en rfl _ _ rfl w0.heap.size _ _ [(k, ll, mm)] rfl (HO.out.below HBq.out) (some ⟨wq2.heap.size, 0, none⟩) 1 1 rfl (fun h => by cases h) [(k, (pl, nl, cl), (pd, nd, cd))] (RSN.one wq2 (k, (pl, nl, cl), (pd, nd, cd)) _ rfl 125 (0, 0)) (Rels.one ⟨rfl, ⟨HXL.out.below HB3.out, HXC.out⟩, ⟨HXD.out.below HB3.out, HXE.out⟩⟩) (fun y hy => by
      rw [List.mem_singleton] at hy
      subst hy
      exact ⟨Lo.old HXL.out (Nat.le_refl _) HB3.out.size, Lo.old HXD.out (Nat.le_refl _) HB3.out.size⟩) (by have := HLO.out; first | (rw [List.length_singleton]; omega) | (rw [List.length_append, List.length_singleton, List.length_singleton]; omega)) HB3.out.size ?_
     intro v3 w3 ho3 _ hbel3
     replace HO := hide ho3
     replace HB := hide (hbel3 _ HB3.out)
     clear ho3 hbel3 HB3 HBq
     clear c0 c1 c2 x0 x1 x2
     go_wp2
     go_roundw
     case rel => exact ⟨k0 + 1, _, false, by omega, by go_num, rfl, HO, HPF2, HB⟩
     case measure => simp [intOf]; omega
    ·have HPF2 : Hid (putQ t l m (s.drop (k0 + 1)) (out ++ [(k, ll, mm)]) true = putP s t (l, m)) := by
      have q := HPF.out
      unfold Hid
      rw [List.drop_eq_getElem_cons (by rw [HLEN.out]; exact hlt), (List.getElem?_eq_some_iff.1 HX.out).2, putQ] at q
      simpa [hk] using q
     have c0 := bcell HB.out C0.out
     have c1 := bcell HB.out C1.out
     have c2 := bcell HB.out C2.out
     have x0 := bcell HB.out E0.out
     have x1 := bcell HB.out E1.out
     have x2 := bcell HB.out E2.out
     go_upto_region 6 with fail
     refine wp_region_held_drew (S := fun W => Below wr.heap.size wr W) (by kernel_rfl) ((Below.refl _ wr).drew) (fun hS0 => ?_)
     refine tkJ 0 23 hS0 ?_; simp only [ly]
     refine tkJ 1 24 hS0 ?_; simp only [ly]
     refine tkJ 2 25 hS0 ?_; simp only [ly]
     refine tkM 3 26 hS0 ?_; simp only [ly]
     refine tkM 4 27 hS0 ?_; simp only [ly]
     refine tkM 5 28 hS0 ?_; simp only [ly]
     refine tkM 6 29 hS0 ?_; simp only [ly]
     refine tkM 7 30 hS0 ?_; simp only [ly]
     refine tkM 8 31 hS0 ?_; simp only [ly]
     refine tkM 9 32 hS0 ?_; simp only [ly]
     refine tkM 10 33 hS0 ?_; simp only [ly]
     refine tkJ 11 34 hS0 ?_; simp only [ly]
     refine wpAnyH_done (by kernel_rfl) ?_ _
     replace HO := hide (HO.out.below hS0)
     replace HB := hide (bel_next HB.out hS0)
     clear hS0 c0 c1 c2 x0 x1 x2
     generalize wr.drew = wq at *
     have c0 := bcell HB.out C0.out
     have c1 := bcell HB.out C1.out
     have c2 := bcell HB.out C2.out
     have x0 := bcell HB.out E0.out
     have x1 := bcell HB.out E1.out
     have x2 := bcell HB.out E2.out
     go_upto_region 9 with fail
     refine wp_region_held_drew (S := fun W => Below wq.heap.size wq W) (by kernel_rfl) ((Below.refl _ wq).drew) (fun hS0 => ?_)
     refine tkJ 0 39 hS0 ?_; simp only [ly]
     refine tkJ 1 40 hS0 ?_; simp only [ly]
     refine tkJ 2 41 hS0 ?_; simp only [ly]
     refine tkJ 3 42 hS0 ?_; simp only [ly]
     refine tkL 4 43 hS0 ?h ?_; case h => (intro W hW; have e0 := bcell hW c0; have e1 := bcell hW x0; clear hW; go_simp; try rfl); simp only [ly]
     refine tkJ 5 44 hS0 ?_; simp only [ly]
     refine tkL 6 45 hS0 ?h ?_; case h => (intro W hW; have e0 := bcell hW c0; have e1 := bcell hW x0; clear hW; go_simp; try rfl); simp only [ly]
     refine tkJ 7 46 hS0 ?_; simp only [ly]
     refine wpAnyH_done (by kernel_rfl) ?_ _
     replace HO := hide (HO.out.below hS0)
     replace HB := hide (bel_next HB.out hS0)
     clear hS0 c0 c1 c2 x0 x1 x2
     generalize wq.drew = wq2 at *
     have c0 := bcell HB.out C0.out
     have c1 := bcell HB.out C1.out
     have c2 := bcell HB.out C2.out
     have x0 := bcell HB.out E0.out
     have x1 := bcell HB.out E1.out
     have x2 := bcell HB.out E2.out
     go_wp2_with (at_builtin; refine Stop.at ?_)
     unfold Stop
     have HBq := hide (bel1 wq2 (.cells #[.string k, .slice pl nl cl, .slice pd nd cd] 125))
     have HB3 := hide (bel_next HB.out HBq.out)
     refine append_en rfl _ _ rfl w0.heap.size _ _ [(k, ll, mm)] rfl (HO.out.below HBq.out) (some ⟨wq2.heap.size, 0, none⟩) 1 1 rfl (fun h => by cases h) [(k, (pl, nl, cl), (pd, nd, cd))] (RSN.one wq2 (k, (pl, nl, cl), (pd, nd, cd)) _ rfl 125 (0, 0)) (Rels.one ⟨rfl, ⟨HXL.out.below HB3.out, HXC.out⟩, ⟨HXD.out.below HB3.out, HXE.out⟩⟩) (fun y hy => by
      rw [List.mem_singleton] at hy
      subst hy
      exact ⟨Lo.old HXL.out (Nat.le_refl _) HB3.out.size, Lo.old HXD.out (Nat.le_refl _) HB3.out.size⟩) (by have := HLO.out; first | (rw [List.length_singleton]; omega) | (rw [List.length_append, List.length_singleton, List.length_singleton]; omega)) HB3.out.size ?_
     intro v3 w3 ho3 _ hbel3
     replace HO := hide ho3
     replace HB := hide (hbel3 _ HB3.out)
     clear ho3 hbel3 HB3 HBq
     clear c0 c1 c2 x0 x1 x2
     go_wp2
     go_roundw
     case rel => exact ⟨k0 + 1, _, true, by omega, by go_num, rfl, HO, HPF2, HB⟩
     case measure => simp [intOf]; omega
  ·obtain rfl : k0 = n := by omega
   have q := HPF.out
   rw [List.drop_eq_nil_of_le (by rw [HLEN.out]; exact Nat.le_refl _), putQ] at q
   have HLO : Hid (out.length ≤ k0 + 1) := by
    have := putQ_len t l m (s.drop k0) out d
    rw [HPF.out] at this
    exact Nat.le_trans this HPL.out
   cases d
   ·have HQ : Hid (out ++ [(t, l, m)] = putP s t (l, m)) := q
    have x0 := bcell HB.out E0.out
    have x1 := bcell HB.out E1.out
    have x2 := bcell HB.out E2.out
    clear q HPF
    generalize wr = wq at *
    go_wp2_with (at_builtin; refine Stop.at ?_)
    unfold Stop
    have HBq := hide (bel1 wq (.cells #[.string t, .slice pv nv cv, .slice pm nm cm] 125))
    have HB3 := hide (bel_next HB.out HBq.out)
    refine append_en rfl _ _ rfl w0.heap.size _ _ [(t, l, m)] rfl (HO.out.below HBq.out) (some ⟨wq.heap.size, 0, none⟩) 1 1 rfl (fun h => by cases h) [(t, (pv, nv, cv), (pm, nm, cm))] (RSN.one wq (t, (pv, nv, cv), (pm, nm, cm)) _ rfl 125 (0, 0)) (Rels.one ⟨rfl, ⟨HL.out.below HB3.out, HCL.out⟩, ⟨HLM.out.below HB3.out, HCM.out⟩⟩) (fun y hy => by
     rw [List.mem_singleton] at hy
     subst hy
     exact ⟨Lo.old HL.out (Nat.le_refl _) HB3.out.size, Lo.old HLM.out (Nat.le_refl _) HB3.out.size⟩) (by have := HLO.out; first | (rw [List.length_singleton]; omega) | (rw [List.length_append, List.length_singleton, List.length_singleton]; omega)) HB3.out.size ?_
    intro v3 w3 ho3 _ hbel3
    replace HO := hide ho3
    replace HB := hide (hbel3 _ HB3.out)
    clear ho3 hbel3 HB3 HBq
    rw [HQ.out] at HO
    obtain ⟨p9, c9, rfl, h9, h8⟩ := HO.out.open
    have H9 := hide h9
    have H8 := hide h8
    clear x0 x1 x2 h9 h8
    go_wp2
    go_ret
    exact ⟨p9, c9, rfl, H9.out, H8.out, bel_next HB0.out HB.out⟩
   ·have HQ : Hid (out = putP s t (l, m)) := q
    clear q HPF
    rw [HQ.out] at HO
    obtain ⟨p9, c9, rfl, h9, h8⟩ := HO.out.open
    have H9 := hide h9
    have H8 := hide h8
    clear h9 h8
    go_wp2
    go_ret
    exact ⟨p9, c9, rfl, H9.out, H8.out, bel_next HB0.out HB.out⟩
end Go.Proofs.YtkbbegbpkndebaaGreat

