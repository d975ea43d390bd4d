/- The document's Put (layer 8). -/
import Derived.Test.YtiodlpoeifmldaaB2
import Derived.Test.YtiodlpoeifmldaaA6
namespace Go.Proofs.Ytiodlpoeifmldaa
open Go.RowKit Go.Lib
set_option linter.unusedVariables false
/-- How the document puts: what is left, what is out, whether it is done. -/
def putF (t : ByteArray) (l : List Dot) : List En → List En → Bool → List En
  | [], out, d => if d then out else out ++ [(t, l, [])]
  | x :: r, out, d => putF t l r (if x.1 = t then (if !d && !ltK x.1 t then out ++ [(t, l, [])] else out) else (if !d && !ltK x.1 t then out ++ [(t, l, [])] else out) ++ [x]) (d || !ltK x.1 t)
theorem putF_done (t : ByteArray) (l : List Dot) : ∀ (s out : List En), putF t l s out true = out ++ s.filter (fun x => decide (x.1 ≠ t))
  | [], out => by simp [putF]
  | x :: r, out => by
    rw [putF]
    simp only [Bool.not_true, Bool.false_and, Bool.false_eq_true, if_false, Bool.true_or]
    rw [putF_done t l r]
    by_cases h : x.1 = t
    · simp [h]
    · simp [h]
theorem ne_parts {s : List En} (hs : SrtK s) (t : ByteArray) : s.filter (fun x => decide (x.1 ≠ t)) = s.filter (fun x => ltK x.1 t) ++ s.filter (fun x => ltK t x.1) := by
  induction s with
  | nil => rfl
  | cons x r ih =>
    obtain ⟨h1, h2⟩ := List.pairwise_cons.1 hs
    have ih := ih h2
    rcases hb : ltK x.1 t with _ | _
    · have no : r.filter (fun y => ltK y.1 t) = [] := by
        rw [List.filter_eq_nil_iff]
        intro y hy h
        have := ltK_trans (h1 y hy) h
        rw [hb] at this
        cases this
      rw [no, List.nil_append] at ih
      rcases hc : ltK t x.1 with _ | _
      · have e := ltK_tri hb hc
        rw [List.filter_cons_of_neg (by simp [e]), List.filter_cons_of_neg (by simp [hb]), List.filter_cons_of_neg (by simp [hc]), no, ih, List.nil_append]
      · have e : x.1 ≠ t := (ltK_ne hc).symm
        rw [List.filter_cons_of_pos (by simp [e]), List.filter_cons_of_neg (by simp [hb]), List.filter_cons_of_pos (by simp [hc]), no, ih, List.nil_append]
    · have e : x.1 ≠ t := ltK_ne hb
      have hc := ltK_asym hb
      rw [List.filter_cons_of_pos (by simp [e]), List.filter_cons_of_pos (by simp [hb]), List.filter_cons_of_neg (by simp [hc]), ih, List.cons_append]
theorem putF_not (t : ByteArray) (l : List Dot) : ∀ (s out : List En), SrtK s → putF t l s out false = out ++ s.filter (fun x => ltK x.1 t) ++ [(t, l, [])] ++ s.filter (fun x => ltK t x.1)
  | [], out, _ => by simp [putF]
  | x :: r, out, hs => by
    obtain ⟨h1, h2⟩ := List.pairwise_cons.1 hs
    rw [putF]
    rcases hb : ltK x.1 t with _ | _
    · have no : r.filter (fun y => ltK y.1 t) = [] := by
        rw [List.filter_eq_nil_iff]
        intro y hy h
        have := ltK_trans (h1 y hy) h
        rw [hb] at this
        cases this
      simp only [Bool.not_false, Bool.true_and, if_true, Bool.or_true]
      rw [putF_done, ne_parts h2, no]
      rcases hc : ltK t x.1 with _ | _
      · have e := ltK_tri hb hc
        simp [e, no, ltK_irr]
      · have e : x.1 ≠ t := (ltK_ne hc).symm
        simp [e, hb, hc, no]
    · have e : x.1 ≠ t := ltK_ne hb
      have hc := ltK_asym hb
      simp only [Bool.not_true, Bool.and_false, Bool.false_eq_true, if_false, e, Bool.or_false]
      rw [putF_not t l r _ h2]
      simp [hb, hc]
theorem putF_is {s : List En} (hs : SrtK s) (t : ByteArray) (l : List Dot) : putF t l s [] (decide (l = [])) = putS s t l := by
  unfold putS
  by_cases h : l = []
  · rw [decide_eq_true h, putF_done, ne_parts hs]
    simp [h]
  · rw [decide_eq_false h, putF_not t l s [] hs]
    simp [h]
theorem putF_len (t : ByteArray) (l : List Dot) : ∀ (s out : List En) (d : Bool), out.length ≤ (putF t l s out d).length
  | [], out, d => by rw [putF]; split <;> simp
  | x :: r, out, d => by
    rw [putF]
    refine Nat.le_trans ?_ (putF_len t l r _ _)
    split <;> split <;> simp <;> omega
set_option maxHeartbeats 8000000 in
theorem PutS_ref (a : Option Addr) (n cap : Nat) (s : List En) (t : ByteArray) (pv : Option Addr) (nv cv : Nat) (l : List Dot) (w : World) (hA : NSS w a n s) (hS : SrtK s) (hL : DS w pv nv l) (hC : CP pv nv cv) (hn : n ≤ 100000) (hm : nv ≤ 100000) :
    Calls Try.prog 29 #[.slice a n cap, .agg #[.string t, .slice pv nv cv, .slice none 0 0]] w fun e w' => ∃ p cp, e = .returned (.slice p (putS s t l).length cp) ∧ NSS w' p (putS s t l).length (putS s t l) ∧ CP p (putS s t l).length cp ∧ Below w.heap.size w w' := by
  have HLEN := hide hA.len
  have HLN := hide hL.1
  have HPS := hide (putF_is hS t l)
  have HPL : Hid ((putS s t l).length ≤ n + 1) := by rw [← hA.len]; exact put_len s t l
  go_enter Try.func29, Try.ntmps29
  go_upto_region 1 with fail
  have HB0 := hide (bel1 w (.cells #[.string t, .slice pv nv cv, .slice none 0 0] 48))
  have E0 := hide (cell_new w #[.string t, .slice pv nv cv, .slice none 0 0] 48 _ rfl 0 _ rfl)
  have E1 := hide (cell_new w #[.string t, .slice pv nv cv, .slice none 0 0] 48 _ rfl 1 _ rfl)
  have E2 := hide (cell_new w #[.string t, .slice pv nv cv, .slice none 0 0] 48 _ rfl 2 _ rfl)
  have HV := hide (hA.below HB0.out)
  have HL := hide (hL.below HB0.out)
  have HCL := hide hC
  clear hA hL hC hS
  generalize hgb : w.heap.size = gb at E0 E1 E2 ⊢
  generalize w.alloc (.cells #[.string t, .slice pv nv cv, .slice none 0 0] 48) = w0 at *
  have hd0 : ((nv : Int) == 0) = decide (l = []) := by
    rw [Bool.eq_iff_iff, beq_iff_eq, decide_eq_true_iff]
    have := HLN.out
    constructor
    · intro h; exact List.eq_nil_of_length_eq_zero (by omega)
    · intro h; rw [h] at this; simp at this; omega
  have e1 := E1.out
  have e2 := E2.out
  have HO0 := hide (ON.made w0 w0.heap.size w0.heap.size rfl (Nat.le_refl _))
  have HB1 := hide (bel1 w0 (.cells #[] 48))
  replace e1 := bcell HB1.out e1
  replace e2 := bcell HB1.out e2
  generalize hdd : decide (l = []) = dd at *
  clear hdd
  go_wp2
  clear e1 e2
  go_loopw [5, 6, 7] (fun V vd i wr => ∃ (k : Nat) (out : List En) (d : Bool), k ≤ n ∧ i = .int .i64 k ∧ vd = .bool d ∧ Hid (ON w0.heap.size wr V out) ∧ Hid (putF t l (s.drop k) out d = putS s t l) ∧ Hid (Below w0.heap.size w0 wr)) (fun _ _ i _ => n - (intOf i).toNat)
  case atStart => exact ⟨0, [], dd, by omega, rfl, rfl, HO0, HPS, HB1⟩
  case round =>
    clear HO0 HB1 hd0
    obtain ⟨k0, out, d, hk, rfl, rfl, HO, HPF, HB⟩ := hrel
    by_cases hlt : k0 < n
    · obtain ⟨b, off, rfl⟩ := HV.out.addr (by omega)
      obtain ⟨k, pl, nl, cl, pd, nd, cd, ll, mm, hx, q0, q1, q2, h1, h2, h3, h4⟩ := HV.out.at k0 hlt
      have C0 := hide q0
      have C1 := hide q1
      have C2 := hide q2
      have HX := hide hx
      have HXL := hide h1
      have HXC := hide h2
      have HXD := hide h3
      have HXE := hide h4
      have HLO : Hid (out.length ≤ n + 1) := by
        have := putF_len t l (s.drop k0) out d
        rw [HPF.out] at this
        exact Nat.le_trans this HPL.out
      have hk0 : (0 : Int) ≤ (k0 : Int) := by omega
      have hk1 : (k0 : Int) < (n : Int) := by omega
      clear hx q0 q1 q2 h1 h2 h3 h4
      rcases hq : Op.bytesLess k.toList t.toList with _ | _
      · have hl : ltK k t = false := hq
        by_cases hk : k = t
        · obtain rfl : t = k := hk.symm
          have hqe : (t.toList == t.toList) = true := by rw [eqK, decide_eq_true rfl]
          clear hk
          cases d
          · have HPF2 : Hid (putF t l (s.drop (k0 + 1)) (out ++ [(t, l, [])]) true = putS s t l) := by
              have q := HPF.out
              unfold Hid
              rw [List.drop_eq_getElem_cons (by rw [HLEN.out]; exact hlt), (List.getElem?_eq_some_iff.1 HX.out).2, putF] at q
              simpa [ltK_irr] using q
            have c0 := bcell HB.out C0.out
            have c1 := bcell HB.out C1.out
            have c2 := bcell HB.out C2.out
            have x0 := bcell HB.out E0.out
            have x1 := bcell HB.out E1.out
            have x2 := bcell HB.out E2.out
            go_upto_region 6 with fail
            refine wp_region_held_drew (S := fun W => Below wr.heap.size wr W) (by kernel_rfl) ((Below.refl _ wr).drew) (fun hS0 => ?_)
            refine takeInH 0 23 ?v1 rfl rfl (by kernel_rfl) (by kernel_rfl) (by kernel_rfl) (fun _ _ _ h => h) (by kernel_rfl) hS0 ?hy1 ?_
            case hy1 => (intro W hW; clear hW; go_simp; try rfl)
            simp only [Act.put, List.setIfInBounds_toArray, List.set_cons_zero, List.set_cons_succ]
            refine takeInH 1 24 ?v2 rfl rfl (by kernel_rfl) (by kernel_rfl) (by kernel_rfl) (fun _ _ _ h => h) (by kernel_rfl) hS0 ?hy2 ?_
            case hy2 => (intro W hW; clear hW; go_simp; try rfl)
            simp only [Act.put, List.setIfInBounds_toArray, List.set_cons_zero, List.set_cons_succ]
            refine takeInH 2 25 ?v3 rfl rfl (by kernel_rfl) (by kernel_rfl) (by kernel_rfl) (fun _ _ _ h => h) (by kernel_rfl) hS0 ?hy3 ?_
            case hy3 => (intro W hW; clear hW; go_simp; try rfl)
            simp only [Act.put, List.setIfInBounds_toArray, List.set_cons_zero, List.set_cons_succ]
            refine takeInH 3 26 ?v4 rfl rfl (by kernel_rfl) (by kernel_rfl) (by kernel_rfl) (fun _ _ _ h => h) (by kernel_rfl) hS0 ?hy4 ?_
            case hy4 => (intro W hW; clear hW; go_simp; try rfl)
            simp only [Act.put, List.setIfInBounds_toArray, List.set_cons_zero, List.set_cons_succ]
            refine takeInH 4 27 ?v5 rfl rfl (by kernel_rfl) (by kernel_rfl) (by kernel_rfl) (fun _ _ _ h => h) (by kernel_rfl) hS0 ?hy5 ?_
            case hy5 => (intro W hW; clear hW; go_simp; try rfl)
            simp only [Act.put, List.setIfInBounds_toArray, List.set_cons_zero, List.set_cons_succ]
            refine takeInH 5 28 ?v6 rfl rfl (by kernel_rfl) (by kernel_rfl) (by kernel_rfl) (fun _ _ _ h => h) (by kernel_rfl) hS0 ?hy6 ?_
            case hy6 => (intro W hW; clear hW; go_simp; try rfl)
            simp only [Act.put, List.setIfInBounds_toArray, List.set_cons_zero, List.set_cons_succ]
            refine takeInH 6 29 ?v7 rfl rfl (by kernel_rfl) (by kernel_rfl) (by kernel_rfl) (fun _ _ _ h => h) (by kernel_rfl) hS0 ?hy7 ?_
            case hy7 => (intro W hW; clear hW; go_simp; try rfl)
            simp only [Act.put, List.setIfInBounds_toArray, List.set_cons_zero, List.set_cons_succ]
            refine takeInH 7 30 ?v8 rfl rfl (by kernel_rfl) (by kernel_rfl) (by kernel_rfl) (fun _ _ _ h => h) (by kernel_rfl) hS0 ?hy8 ?_
            case hy8 => (intro W hW; have e0 := bcell hW c0; have e1 := bcell hW x0; clear hW; go_simp; try rfl)
            simp only [Act.put, List.setIfInBounds_toArray, List.set_cons_zero, List.set_cons_succ]
            refine takeInH 8 31 ?v9 rfl rfl (by kernel_rfl) (by kernel_rfl) (by kernel_rfl) (fun _ _ _ h => h) (by kernel_rfl) hS0 ?hy9 ?_
            case hy9 => (intro W hW; clear hW; go_simp; try rfl)
            simp only [Act.put, List.setIfInBounds_toArray, List.set_cons_zero, List.set_cons_succ]
            refine takeInH 9 32 ?v10 rfl rfl (by kernel_rfl) (by kernel_rfl) (by kernel_rfl) (fun _ _ _ h => h) (by kernel_rfl) hS0 ?hy10 ?_
            case hy10 => (intro W hW; have e0 := bcell hW c0; have e1 := bcell hW x0; clear hW; go_simp; try rfl)
            simp only [Act.put, List.setIfInBounds_toArray, List.set_cons_zero, List.set_cons_succ]
            refine takeInH 10 33 ?v11 rfl rfl (by kernel_rfl) (by kernel_rfl) (by kernel_rfl) (fun _ _ _ h => h) (by kernel_rfl) hS0 ?hy11 ?_
            case hy11 => (intro W hW; clear hW; go_simp; try rfl)
            simp only [Act.put, List.setIfInBounds_toArray, List.set_cons_zero, List.set_cons_succ]
            refine takeInH 11 34 ?v12 rfl rfl (by kernel_rfl) (by kernel_rfl) (by kernel_rfl) (fun _ _ _ h => h) (by kernel_rfl) hS0 ?hy12 ?_
            case hy12 => (intro W hW; clear hW; go_simp; try rfl)
            simp only [Act.put, List.setIfInBounds_toArray, List.set_cons_zero, List.set_cons_succ]
            refine wpAnyH_done (by kernel_rfl) ?_ _
            replace HO := hide (HO.out.below hS0)
            replace HB := hide (bel_next HB.out hS0)
            clear hS0 c0 c1 c2 x0 x1 x2
            generalize wr.drew = wq at *
            have c0 := bcell HB.out C0.out
            have c1 := bcell HB.out C1.out
            have c2 := bcell HB.out C2.out
            have x0 := bcell HB.out E0.out
            have x1 := bcell HB.out E1.out
            have x2 := bcell HB.out E2.out
            go_wp2_with (at_builtin; refine Stop.at ?_)
            unfold Stop
            have HBq := hide (bel1 wq (.cells #[.string t, .slice pv nv cv, .slice none 0 0] 48))
            have HB3 := hide (bel_next HB.out HBq.out)
            refine append_en rfl _ _ rfl w0.heap.size _ _ [(t, l, [])] rfl (HO.out.below HBq.out) (some ⟨wq.heap.size, 0, none⟩) 1 1 rfl (fun h => by cases h) [(t, (pv, nv, cv), (none, 0, 0))] (RSN.one wq (t, (pv, nv, cv), (none, 0, 0)) _ rfl 48 (0, 0)) (Rels.one ⟨rfl, ⟨HL.out.below HB3.out, HCL.out⟩, DC.nil _⟩) (fun y hy => by
              rw [List.mem_singleton] at hy
              subst hy
              exact ⟨Lo.old HL.out (Nat.le_refl _) HB3.out.size, Lo.none _ _⟩) (by have := HLO.out; first | (rw [List.length_singleton]; omega) | (rw [List.length_append, List.length_singleton, List.length_singleton]; omega)) HB3.out.size ?_
            intro v3 w3 ho3 _ hbel3
            replace HO := hide ho3
            replace HB := hide (hbel3 _ HB3.out)
            clear ho3 hbel3 HB3 HBq
            clear c0 c1 c2 x0 x1 x2
            generalize hwq2 : w3 = wr2 at *
            clear hwq2
            have c0 := bcell HB.out C0.out
            have c1 := bcell HB.out C1.out
            have c2 := bcell HB.out C2.out
            have x0 := bcell HB.out E0.out
            have x1 := bcell HB.out E1.out
            have x2 := bcell HB.out E2.out
            go_upto_region 9 with fail
            refine wp_region_held_drew (S := fun W => Below wr2.heap.size wr2 W) (by kernel_rfl) ((Below.refl _ wr2).drew) (fun hS0 => ?_)
            refine takeInH 0 39 ?v13 rfl rfl (by kernel_rfl) (by kernel_rfl) (by kernel_rfl) (fun _ _ _ h => h) (by kernel_rfl) hS0 ?hy13 ?_
            case hy13 => (intro W hW; clear hW; go_simp; try rfl)
            simp only [Act.put, List.setIfInBounds_toArray, List.set_cons_zero, List.set_cons_succ]
            refine takeInH 1 40 ?v14 rfl rfl (by kernel_rfl) (by kernel_rfl) (by kernel_rfl) (fun _ _ _ h => h) (by kernel_rfl) hS0 ?hy14 ?_
            case hy14 => (intro W hW; clear hW; go_simp; try rfl)
            simp only [Act.put, List.setIfInBounds_toArray, List.set_cons_zero, List.set_cons_succ]
            refine takeInH 2 41 ?v15 rfl rfl (by kernel_rfl) (by kernel_rfl) (by kernel_rfl) (fun _ _ _ h => h) (by kernel_rfl) hS0 ?hy15 ?_
            case hy15 => (intro W hW; clear hW; go_simp; try rfl)
            simp only [Act.put, List.setIfInBounds_toArray, List.set_cons_zero, List.set_cons_succ]
            refine takeInH 3 42 ?v16 rfl rfl (by kernel_rfl) (by kernel_rfl) (by kernel_rfl) (fun _ _ _ h => h) (by kernel_rfl) hS0 ?hy16 ?_
            case hy16 => (intro W hW; clear hW; go_simp; try rfl)
            simp only [Act.put, List.setIfInBounds_toArray, List.set_cons_zero, List.set_cons_succ]
            refine takeInH 4 43 ?v17 rfl rfl (by kernel_rfl) (by kernel_rfl) (by kernel_rfl) (fun _ _ _ h => h) (by kernel_rfl) hS0 ?hy17 ?_
            case hy17 => (intro W hW; have e0 := bcell hW c0; have e1 := bcell hW x0; clear hW; go_simp; try rfl)
            simp only [Act.put, List.setIfInBounds_toArray, List.set_cons_zero, List.set_cons_succ]
            refine takeInH 5 44 ?v18 rfl rfl (by kernel_rfl) (by kernel_rfl) (by kernel_rfl) (fun _ _ _ h => h) (by kernel_rfl) hS0 ?hy18 ?_
            case hy18 => (intro W hW; clear hW; go_simp; try rfl)
            simp only [Act.put, List.setIfInBounds_toArray, List.set_cons_zero, List.set_cons_succ]
            refine takeInH 6 45 ?v19 rfl rfl (by kernel_rfl) (by kernel_rfl) (by kernel_rfl) (fun _ _ _ h => h) (by kernel_rfl) hS0 ?hy19 ?_
            case hy19 => (intro W hW; have e0 := bcell hW c0; have e1 := bcell hW x0; clear hW; go_simp; try rfl)
            simp only [Act.put, List.setIfInBounds_toArray, List.set_cons_zero, List.set_cons_succ]
            refine takeInH 7 46 ?v20 rfl rfl (by kernel_rfl) (by kernel_rfl) (by kernel_rfl) (fun _ _ _ h => h) (by kernel_rfl) hS0 ?hy20 ?_
            case hy20 => (intro W hW; clear hW; go_simp; try rfl)
            simp only [Act.put, List.setIfInBounds_toArray, List.set_cons_zero, List.set_cons_succ]
            refine wpAnyH_done (by kernel_rfl) ?_ _
            replace HO := hide (HO.out.below hS0)
            replace HB := hide (bel_next HB.out hS0)
            clear hS0 c0 c1 c2 x0 x1 x2
            generalize wr2.drew = wq2 at *
            go_wp2
            go_roundw
            case rel => exact ⟨k0 + 1, _, true, by omega, by go_num, rfl, HO, HPF2, HB⟩
            case measure => simp [intOf]; omega
          · have HPF2 : Hid (putF t l (s.drop (k0 + 1)) out true = putS s t l) := by
              have q := HPF.out
              unfold Hid
              rw [List.drop_eq_getElem_cons (by rw [HLEN.out]; exact hlt), (List.getElem?_eq_some_iff.1 HX.out).2, putF] at q
              simpa [ltK_irr] using q
            have c0 := bcell HB.out C0.out
            have c1 := bcell HB.out C1.out
            have c2 := bcell HB.out C2.out
            have x0 := bcell HB.out E0.out
            have x1 := bcell HB.out E1.out
            have x2 := bcell HB.out E2.out
            go_upto_region 6 with fail
            refine wp_region_held_drew (S := fun W => Below wr.heap.size wr W) (by kernel_rfl) ((Below.refl _ wr).drew) (fun hS0 => ?_)
            refine takeInH 0 23 ?v21 rfl rfl (by kernel_rfl) (by kernel_rfl) (by kernel_rfl) (fun _ _ _ h => h) (by kernel_rfl) hS0 ?hy21 ?_
            case hy21 => (intro W hW; clear hW; go_simp; try rfl)
            simp only [Act.put, List.setIfInBounds_toArray, List.set_cons_zero, List.set_cons_succ]
            refine takeInH 1 24 ?v22 rfl rfl (by kernel_rfl) (by kernel_rfl) (by kernel_rfl) (fun _ _ _ h => h) (by kernel_rfl) hS0 ?hy22 ?_
            case hy22 => (intro W hW; clear hW; go_simp; try rfl)
            simp only [Act.put, List.setIfInBounds_toArray, List.set_cons_zero, List.set_cons_succ]
            refine takeInH 2 25 ?v23 rfl rfl (by kernel_rfl) (by kernel_rfl) (by kernel_rfl) (fun _ _ _ h => h) (by kernel_rfl) hS0 ?hy23 ?_
            case hy23 => (intro W hW; clear hW; go_simp; try rfl)
            simp only [Act.put, List.setIfInBounds_toArray, List.set_cons_zero, List.set_cons_succ]
            refine takeNoH 3 26 rfl rfl (by kernel_rfl) (by kernel_rfl) (by kernel_rfl) (fun _ _ _ h => h) (by kernel_rfl) hS0 ?_
            simp only [Act.put, List.setIfInBounds_toArray, List.set_cons_zero, List.set_cons_succ]
            refine takeNoH 4 27 rfl rfl (by kernel_rfl) (by kernel_rfl) (by kernel_rfl) (fun _ _ _ h => h) (by kernel_rfl) hS0 ?_
            simp only [Act.put, List.setIfInBounds_toArray, List.set_cons_zero, List.set_cons_succ]
            refine takeNoH 5 28 rfl rfl (by kernel_rfl) (by kernel_rfl) (by kernel_rfl) (fun _ _ _ h => h) (by kernel_rfl) hS0 ?_
            simp only [Act.put, List.setIfInBounds_toArray, List.set_cons_zero, List.set_cons_succ]
            refine takeNoH 6 29 rfl rfl (by kernel_rfl) (by kernel_rfl) (by kernel_rfl) (fun _ _ _ h => h) (by kernel_rfl) hS0 ?_
            simp only [Act.put, List.setIfInBounds_toArray, List.set_cons_zero, List.set_cons_succ]
            refine takeNoH 7 30 rfl rfl (by kernel_rfl) (by kernel_rfl) (by kernel_rfl) (fun _ _ _ h => h) (by kernel_rfl) hS0 ?_
            simp only [Act.put, List.setIfInBounds_toArray, List.set_cons_zero, List.set_cons_succ]
            refine takeNoH 8 31 rfl rfl (by kernel_rfl) (by kernel_rfl) (by kernel_rfl) (fun _ _ _ h => h) (by kernel_rfl) hS0 ?_
            simp only [Act.put, List.setIfInBounds_toArray, List.set_cons_zero, List.set_cons_succ]
            refine takeNoH 9 32 rfl rfl (by kernel_rfl) (by kernel_rfl) (by kernel_rfl) (fun _ _ _ h => h) (by kernel_rfl) hS0 ?_
            simp only [Act.put, List.setIfInBounds_toArray, List.set_cons_zero, List.set_cons_succ]
            refine takeNoH 10 33 rfl rfl (by kernel_rfl) (by kernel_rfl) (by kernel_rfl) (fun _ _ _ h => h) (by kernel_rfl) hS0 ?_
            simp only [Act.put, List.setIfInBounds_toArray, List.set_cons_zero, List.set_cons_succ]
            refine takeInH 11 34 ?v24 rfl rfl (by kernel_rfl) (by kernel_rfl) (by kernel_rfl) (fun _ _ _ h => h) (by kernel_rfl) hS0 ?hy24 ?_
            case hy24 => (intro W hW; clear hW; go_simp; try rfl)
            simp only [Act.put, List.setIfInBounds_toArray, List.set_cons_zero, List.set_cons_succ]
            refine wpAnyH_done (by kernel_rfl) ?_ _
            replace HO := hide (HO.out.below hS0)
            replace HB := hide (bel_next HB.out hS0)
            clear hS0 c0 c1 c2 x0 x1 x2
            generalize wr.drew = wq at *
            have c0 := bcell HB.out C0.out
            have c1 := bcell HB.out C1.out
            have c2 := bcell HB.out C2.out
            have x0 := bcell HB.out E0.out
            have x1 := bcell HB.out E1.out
            have x2 := bcell HB.out E2.out
            go_upto_region 9 with fail
            refine wp_region_held_drew (S := fun W => Below wq.heap.size wq W) (by kernel_rfl) ((Below.refl _ wq).drew) (fun hS0 => ?_)
            refine takeInH 0 39 ?v25 rfl rfl (by kernel_rfl) (by kernel_rfl) (by kernel_rfl) (fun _ _ _ h => h) (by kernel_rfl) hS0 ?hy25 ?_
            case hy25 => (intro W hW; clear hW; go_simp; try rfl)
            simp only [Act.put, List.setIfInBounds_toArray, List.set_cons_zero, List.set_cons_succ]
            refine takeInH 1 40 ?v26 rfl rfl (by kernel_rfl) (by kernel_rfl) (by kernel_rfl) (fun _ _ _ h => h) (by kernel_rfl) hS0 ?hy26 ?_
            case hy26 => (intro W hW; clear hW; go_simp; try rfl)
            simp only [Act.put, List.setIfInBounds_toArray, List.set_cons_zero, List.set_cons_succ]
            refine takeInH 2 41 ?v27 rfl rfl (by kernel_rfl) (by kernel_rfl) (by kernel_rfl) (fun _ _ _ h => h) (by kernel_rfl) hS0 ?hy27 ?_
            case hy27 => (intro W hW; clear hW; go_simp; try rfl)
            simp only [Act.put, List.setIfInBounds_toArray, List.set_cons_zero, List.set_cons_succ]
            refine takeInH 3 42 ?v28 rfl rfl (by kernel_rfl) (by kernel_rfl) (by kernel_rfl) (fun _ _ _ h => h) (by kernel_rfl) hS0 ?hy28 ?_
            case hy28 => (intro W hW; clear hW; go_simp; try rfl)
            simp only [Act.put, List.setIfInBounds_toArray, List.set_cons_zero, List.set_cons_succ]
            refine takeInH 4 43 ?v29 rfl rfl (by kernel_rfl) (by kernel_rfl) (by kernel_rfl) (fun _ _ _ h => h) (by kernel_rfl) hS0 ?hy29 ?_
            case hy29 => (intro W hW; have e0 := bcell hW c0; have e1 := bcell hW x0; clear hW; go_simp; try rfl)
            simp only [Act.put, List.setIfInBounds_toArray, List.set_cons_zero, List.set_cons_succ]
            refine takeInH 5 44 ?v30 rfl rfl (by kernel_rfl) (by kernel_rfl) (by kernel_rfl) (fun _ _ _ h => h) (by kernel_rfl) hS0 ?hy30 ?_
            case hy30 => (intro W hW; clear hW; go_simp; try rfl)
            simp only [Act.put, List.setIfInBounds_toArray, List.set_cons_zero, List.set_cons_succ]
            refine takeInH 6 45 ?v31 rfl rfl (by kernel_rfl) (by kernel_rfl) (by kernel_rfl) (fun _ _ _ h => h) (by kernel_rfl) hS0 ?hy31 ?_
            case hy31 => (intro W hW; have e0 := bcell hW c0; have e1 := bcell hW x0; clear hW; go_simp; try rfl)
            simp only [Act.put, List.setIfInBounds_toArray, List.set_cons_zero, List.set_cons_succ]
            refine takeInH 7 46 ?v32 rfl rfl (by kernel_rfl) (by kernel_rfl) (by kernel_rfl) (fun _ _ _ h => h) (by kernel_rfl) hS0 ?hy32 ?_
            case hy32 => (intro W hW; clear hW; go_simp; try rfl)
            simp only [Act.put, List.setIfInBounds_toArray, List.set_cons_zero, List.set_cons_succ]
            refine wpAnyH_done (by kernel_rfl) ?_ _
            replace HO := hide (HO.out.below hS0)
            replace HB := hide (bel_next HB.out hS0)
            clear hS0 c0 c1 c2 x0 x1 x2
            generalize wq.drew = wq2 at *
            go_wp2
            go_roundw
            case rel => exact ⟨k0 + 1, _, true, by omega, by go_num, rfl, HO, HPF2, HB⟩
            case measure => simp [intOf]; omega
        · have hqe : (k.toList == t.toList) = false := by rw [eqK, decide_eq_false hk]
          cases d
          · have HPF2 : Hid (putF t l (s.drop (k0 + 1)) ((out ++ [(t, l, [])]) ++ [(k, ll, mm)]) true = putS s t l) := by
              have q := HPF.out
              unfold Hid
              rw [List.drop_eq_getElem_cons (by rw [HLEN.out]; exact hlt), (List.getElem?_eq_some_iff.1 HX.out).2, putF] at q
              simpa [hk, hl] using q
            have c0 := bcell HB.out C0.out
            have c1 := bcell HB.out C1.out
            have c2 := bcell HB.out C2.out
            have x0 := bcell HB.out E0.out
            have x1 := bcell HB.out E1.out
            have x2 := bcell HB.out E2.out
            go_upto_region 6 with fail
            refine wp_region_held_drew (S := fun W => Below wr.heap.size wr W) (by kernel_rfl) ((Below.refl _ wr).drew) (fun hS0 => ?_)
            refine takeInH 0 23 ?v33 rfl rfl (by kernel_rfl) (by kernel_rfl) (by kernel_rfl) (fun _ _ _ h => h) (by kernel_rfl) hS0 ?hy33 ?_
            case hy33 => (intro W hW; clear hW; go_simp; try rfl)
            simp only [Act.put, List.setIfInBounds_toArray, List.set_cons_zero, List.set_cons_succ]
            refine takeInH 1 24 ?v34 rfl rfl (by kernel_rfl) (by kernel_rfl) (by kernel_rfl) (fun _ _ _ h => h) (by kernel_rfl) hS0 ?hy34 ?_
            case hy34 => (intro W hW; clear hW; go_simp; try rfl)
            simp only [Act.put, List.setIfInBounds_toArray, List.set_cons_zero, List.set_cons_succ]
            refine takeInH 2 25 ?v35 rfl rfl (by kernel_rfl) (by kernel_rfl) (by kernel_rfl) (fun _ _ _ h => h) (by kernel_rfl) hS0 ?hy35 ?_
            case hy35 => (intro W hW; clear hW; go_simp; try rfl)
            simp only [Act.put, List.setIfInBounds_toArray, List.set_cons_zero, List.set_cons_succ]
            refine takeInH 3 26 ?v36 rfl rfl (by kernel_rfl) (by kernel_rfl) (by kernel_rfl) (fun _ _ _ h => h) (by kernel_rfl) hS0 ?hy36 ?_
            case hy36 => (intro W hW; clear hW; go_simp; try rfl)
            simp only [Act.put, List.setIfInBounds_toArray, List.set_cons_zero, List.set_cons_succ]
            refine takeInH 4 27 ?v37 rfl rfl (by kernel_rfl) (by kernel_rfl) (by kernel_rfl) (fun _ _ _ h => h) (by kernel_rfl) hS0 ?hy37 ?_
            case hy37 => (intro W hW; clear hW; go_simp; try rfl)
            simp only [Act.put, List.setIfInBounds_toArray, List.set_cons_zero, List.set_cons_succ]
            refine takeInH 5 28 ?v38 rfl rfl (by kernel_rfl) (by kernel_rfl) (by kernel_rfl) (fun _ _ _ h => h) (by kernel_rfl) hS0 ?hy38 ?_
            case hy38 => (intro W hW; clear hW; go_simp; try rfl)
            simp only [Act.put, List.setIfInBounds_toArray, List.set_cons_zero, List.set_cons_succ]
            refine takeInH 6 29 ?v39 rfl rfl (by kernel_rfl) (by kernel_rfl) (by kernel_rfl) (fun _ _ _ h => h) (by kernel_rfl) hS0 ?hy39 ?_
            case hy39 => (intro W hW; clear hW; go_simp; try rfl)
            simp only [Act.put, List.setIfInBounds_toArray, List.set_cons_zero, List.set_cons_succ]
            refine takeInH 7 30 ?v40 rfl rfl (by kernel_rfl) (by kernel_rfl) (by kernel_rfl) (fun _ _ _ h => h) (by kernel_rfl) hS0 ?hy40 ?_
            case hy40 => (intro W hW; have e0 := bcell hW c0; have e1 := bcell hW x0; clear hW; go_simp; try rfl)
            simp only [Act.put, List.setIfInBounds_toArray, List.set_cons_zero, List.set_cons_succ]
            refine takeInH 8 31 ?v41 rfl rfl (by kernel_rfl) (by kernel_rfl) (by kernel_rfl) (fun _ _ _ h => h) (by kernel_rfl) hS0 ?hy41 ?_
            case hy41 => (intro W hW; clear hW; go_simp; try rfl)
            simp only [Act.put, List.setIfInBounds_toArray, List.set_cons_zero, List.set_cons_succ]
            refine takeInH 9 32 ?v42 rfl rfl (by kernel_rfl) (by kernel_rfl) (by kernel_rfl) (fun _ _ _ h => h) (by kernel_rfl) hS0 ?hy42 ?_
            case hy42 => (intro W hW; have e0 := bcell hW c0; have e1 := bcell hW x0; clear hW; go_simp; try rfl)
            simp only [Act.put, List.setIfInBounds_toArray, List.set_cons_zero, List.set_cons_succ]
            refine takeInH 10 33 ?v43 rfl rfl (by kernel_rfl) (by kernel_rfl) (by kernel_rfl) (fun _ _ _ h => h) (by kernel_rfl) hS0 ?hy43 ?_
            case hy43 => (intro W hW; clear hW; go_simp; try rfl)
            simp only [Act.put, List.setIfInBounds_toArray, List.set_cons_zero, List.set_cons_succ]
            refine takeInH 11 34 ?v44 rfl rfl (by kernel_rfl) (by kernel_rfl) (by kernel_rfl) (fun _ _ _ h => h) (by kernel_rfl) hS0 ?hy44 ?_
            case hy44 => (intro W hW; clear hW; go_simp; try rfl)
            simp only [Act.put, List.setIfInBounds_toArray, List.set_cons_zero, List.set_cons_succ]
            refine wpAnyH_done (by kernel_rfl) ?_ _
            replace HO := hide (HO.out.below hS0)
            replace HB := hide (bel_next HB.out hS0)
            clear hS0 c0 c1 c2 x0 x1 x2
            generalize wr.drew = wq at *
            have c0 := bcell HB.out C0.out
            have c1 := bcell HB.out C1.out
            have c2 := bcell HB.out C2.out
            have x0 := bcell HB.out E0.out
            have x1 := bcell HB.out E1.out
            have x2 := bcell HB.out E2.out
            go_wp2_with (at_builtin; refine Stop.at ?_)
            unfold Stop
            have HBq := hide (bel1 wq (.cells #[.string t, .slice pv nv cv, .slice none 0 0] 48))
            have HB3 := hide (bel_next HB.out HBq.out)
            refine append_en rfl _ _ rfl w0.heap.size _ _ [(t, l, [])] rfl (HO.out.below HBq.out) (some ⟨wq.heap.size, 0, none⟩) 1 1 rfl (fun h => by cases h) [(t, (pv, nv, cv), (none, 0, 0))] (RSN.one wq (t, (pv, nv, cv), (none, 0, 0)) _ rfl 48 (0, 0)) (Rels.one ⟨rfl, ⟨HL.out.below HB3.out, HCL.out⟩, DC.nil _⟩) (fun y hy => by
              rw [List.mem_singleton] at hy
              subst hy
              exact ⟨Lo.old HL.out (Nat.le_refl _) HB3.out.size, Lo.none _ _⟩) (by have := HLO.out; first | (rw [List.length_singleton]; omega) | (rw [List.length_append, List.length_singleton, List.length_singleton]; omega)) HB3.out.size ?_
            intro v3 w3 ho3 _ hbel3
            replace HO := hide ho3
            replace HB := hide (hbel3 _ HB3.out)
            clear ho3 hbel3 HB3 HBq
            clear c0 c1 c2 x0 x1 x2
            generalize hwq2 : w3 = wr2 at *
            clear hwq2
            have c0 := bcell HB.out C0.out
            have c1 := bcell HB.out C1.out
            have c2 := bcell HB.out C2.out
            have x0 := bcell HB.out E0.out
            have x1 := bcell HB.out E1.out
            have x2 := bcell HB.out E2.out
            go_upto_region 9 with fail
            refine wp_region_held_drew (S := fun W => Below wr2.heap.size wr2 W) (by kernel_rfl) ((Below.refl _ wr2).drew) (fun hS0 => ?_)
            refine takeInH 0 39 ?v45 rfl rfl (by kernel_rfl) (by kernel_rfl) (by kernel_rfl) (fun _ _ _ h => h) (by kernel_rfl) hS0 ?hy45 ?_
            case hy45 => (intro W hW; clear hW; go_simp; try rfl)
            simp only [Act.put, List.setIfInBounds_toArray, List.set_cons_zero, List.set_cons_succ]
            refine takeInH 1 40 ?v46 rfl rfl (by kernel_rfl) (by kernel_rfl) (by kernel_rfl) (fun _ _ _ h => h) (by kernel_rfl) hS0 ?hy46 ?_
            case hy46 => (intro W hW; clear hW; go_simp; try rfl)
            simp only [Act.put, List.setIfInBounds_toArray, List.set_cons_zero, List.set_cons_succ]
            refine takeInH 2 41 ?v47 rfl rfl (by kernel_rfl) (by kernel_rfl) (by kernel_rfl) (fun _ _ _ h => h) (by kernel_rfl) hS0 ?hy47 ?_
            case hy47 => (intro W hW; clear hW; go_simp; try rfl)
            simp only [Act.put, List.setIfInBounds_toArray, List.set_cons_zero, List.set_cons_succ]
            refine takeInH 3 42 ?v48 rfl rfl (by kernel_rfl) (by kernel_rfl) (by kernel_rfl) (fun _ _ _ h => h) (by kernel_rfl) hS0 ?hy48 ?_
            case hy48 => (intro W hW; clear hW; go_simp; try rfl)
            simp only [Act.put, List.setIfInBounds_toArray, List.set_cons_zero, List.set_cons_succ]
            refine takeInH 4 43 ?v49 rfl rfl (by kernel_rfl) (by kernel_rfl) (by kernel_rfl) (fun _ _ _ h => h) (by kernel_rfl) hS0 ?hy49 ?_
            case hy49 => (intro W hW; have e0 := bcell hW c0; have e1 := bcell hW x0; clear hW; go_simp; try rfl)
            simp only [Act.put, List.setIfInBounds_toArray, List.set_cons_zero, List.set_cons_succ]
            refine takeInH 5 44 ?v50 rfl rfl (by kernel_rfl) (by kernel_rfl) (by kernel_rfl) (fun _ _ _ h => h) (by kernel_rfl) hS0 ?hy50 ?_
            case hy50 => (intro W hW; clear hW; go_simp; try rfl)
            simp only [Act.put, List.setIfInBounds_toArray, List.set_cons_zero, List.set_cons_succ]
            refine takeInH 6 45 ?v51 rfl rfl (by kernel_rfl) (by kernel_rfl) (by kernel_rfl) (fun _ _ _ h => h) (by kernel_rfl) hS0 ?hy51 ?_
            case hy51 => (intro W hW; have e0 := bcell hW c0; have e1 := bcell hW x0; clear hW; go_simp; try rfl)
            simp only [Act.put, List.setIfInBounds_toArray, List.set_cons_zero, List.set_cons_succ]
            refine takeInH 7 46 ?v52 rfl rfl (by kernel_rfl) (by kernel_rfl) (by kernel_rfl) (fun _ _ _ h => h) (by kernel_rfl) hS0 ?hy52 ?_
            case hy52 => (intro W hW; clear hW; go_simp; try rfl)
            simp only [Act.put, List.setIfInBounds_toArray, List.set_cons_zero, List.set_cons_succ]
            refine wpAnyH_done (by kernel_rfl) ?_ _
            replace HO := hide (HO.out.below hS0)
            replace HB := hide (bel_next HB.out hS0)
            clear hS0 c0 c1 c2 x0 x1 x2
            generalize wr2.drew = wq2 at *
            have c0 := bcell HB.out C0.out
            have c1 := bcell HB.out C1.out
            have c2 := bcell HB.out C2.out
            have x0 := bcell HB.out E0.out
            have x1 := bcell HB.out E1.out
            have x2 := bcell HB.out E2.out
            go_wp2_with (at_builtin; refine Stop.at ?_)
            unfold Stop
            have HBq := hide (bel1 wq2 (.cells #[.string k, .slice pl nl cl, .slice pd nd cd] 48))
            have HB3 := hide (bel_next HB.out HBq.out)
            refine append_en rfl _ _ rfl w0.heap.size _ _ [(k, ll, mm)] rfl (HO.out.below HBq.out) (some ⟨wq2.heap.size, 0, none⟩) 1 1 rfl (fun h => by cases h) [(k, (pl, nl, cl), (pd, nd, cd))] (RSN.one wq2 (k, (pl, nl, cl), (pd, nd, cd)) _ rfl 48 (0, 0)) (Rels.one ⟨rfl, ⟨HXL.out.below HB3.out, HXC.out⟩, ⟨HXD.out.below HB3.out, HXE.out⟩⟩) (fun y hy => by
              rw [List.mem_singleton] at hy
              subst hy
              exact ⟨Lo.old HXL.out (Nat.le_refl _) HB3.out.size, Lo.old HXD.out (Nat.le_refl _) HB3.out.size⟩) (by have := HLO.out; first | (rw [List.length_singleton]; omega) | (rw [List.length_append, List.length_singleton, List.length_singleton]; omega)) HB3.out.size ?_
            intro v3 w3 ho3 _ hbel3
            replace HO := hide ho3
            replace HB := hide (hbel3 _ HB3.out)
            clear ho3 hbel3 HB3 HBq
            clear c0 c1 c2 x0 x1 x2
            go_wp2
            go_roundw
            case rel => exact ⟨k0 + 1, _, true, by omega, by go_num, rfl, HO, HPF2, HB⟩
            case measure => simp [intOf]; omega
          · have HPF2 : Hid (putF t l (s.drop (k0 + 1)) (out ++ [(k, ll, mm)]) true = putS s t l) := by
              have q := HPF.out
              unfold Hid
              rw [List.drop_eq_getElem_cons (by rw [HLEN.out]; exact hlt), (List.getElem?_eq_some_iff.1 HX.out).2, putF] at q
              simpa [hk] using q
            have c0 := bcell HB.out C0.out
            have c1 := bcell HB.out C1.out
            have c2 := bcell HB.out C2.out
            have x0 := bcell HB.out E0.out
            have x1 := bcell HB.out E1.out
            have x2 := bcell HB.out E2.out
            go_upto_region 6 with fail
            refine wp_region_held_drew (S := fun W => Below wr.heap.size wr W) (by kernel_rfl) ((Below.refl _ wr).drew) (fun hS0 => ?_)
            refine takeInH 0 23 ?v53 rfl rfl (by kernel_rfl) (by kernel_rfl) (by kernel_rfl) (fun _ _ _ h => h) (by kernel_rfl) hS0 ?hy53 ?_
            case hy53 => (intro W hW; clear hW; go_simp; try rfl)
            simp only [Act.put, List.setIfInBounds_toArray, List.set_cons_zero, List.set_cons_succ]
            refine takeInH 1 24 ?v54 rfl rfl (by kernel_rfl) (by kernel_rfl) (by kernel_rfl) (fun _ _ _ h => h) (by kernel_rfl) hS0 ?hy54 ?_
            case hy54 => (intro W hW; clear hW; go_simp; try rfl)
            simp only [Act.put, List.setIfInBounds_toArray, List.set_cons_zero, List.set_cons_succ]
            refine takeInH 2 25 ?v55 rfl rfl (by kernel_rfl) (by kernel_rfl) (by kernel_rfl) (fun _ _ _ h => h) (by kernel_rfl) hS0 ?hy55 ?_
            case hy55 => (intro W hW; clear hW; go_simp; try rfl)
            simp only [Act.put, List.setIfInBounds_toArray, List.set_cons_zero, List.set_cons_succ]
            refine takeNoH 3 26 rfl rfl (by kernel_rfl) (by kernel_rfl) (by kernel_rfl) (fun _ _ _ h => h) (by kernel_rfl) hS0 ?_
            simp only [Act.put, List.setIfInBounds_toArray, List.set_cons_zero, List.set_cons_succ]
            refine takeNoH 4 27 rfl rfl (by kernel_rfl) (by kernel_rfl) (by kernel_rfl) (fun _ _ _ h => h) (by kernel_rfl) hS0 ?_
            simp only [Act.put, List.setIfInBounds_toArray, List.set_cons_zero, List.set_cons_succ]
            refine takeNoH 5 28 rfl rfl (by kernel_rfl) (by kernel_rfl) (by kernel_rfl) (fun _ _ _ h => h) (by kernel_rfl) hS0 ?_
            simp only [Act.put, List.setIfInBounds_toArray, List.set_cons_zero, List.set_cons_succ]
            refine takeNoH 6 29 rfl rfl (by kernel_rfl) (by kernel_rfl) (by kernel_rfl) (fun _ _ _ h => h) (by kernel_rfl) hS0 ?_
            simp only [Act.put, List.setIfInBounds_toArray, List.set_cons_zero, List.set_cons_succ]
            refine takeNoH 7 30 rfl rfl (by kernel_rfl) (by kernel_rfl) (by kernel_rfl) (fun _ _ _ h => h) (by kernel_rfl) hS0 ?_
            simp only [Act.put, List.setIfInBounds_toArray, List.set_cons_zero, List.set_cons_succ]
            refine takeNoH 8 31 rfl rfl (by kernel_rfl) (by kernel_rfl) (by kernel_rfl) (fun _ _ _ h => h) (by kernel_rfl) hS0 ?_
            simp only [Act.put, List.setIfInBounds_toArray, List.set_cons_zero, List.set_cons_succ]
            refine takeNoH 9 32 rfl rfl (by kernel_rfl) (by kernel_rfl) (by kernel_rfl) (fun _ _ _ h => h) (by kernel_rfl) hS0 ?_
            simp only [Act.put, List.setIfInBounds_toArray, List.set_cons_zero, List.set_cons_succ]
            refine takeNoH 10 33 rfl rfl (by kernel_rfl) (by kernel_rfl) (by kernel_rfl) (fun _ _ _ h => h) (by kernel_rfl) hS0 ?_
            simp only [Act.put, List.setIfInBounds_toArray, List.set_cons_zero, List.set_cons_succ]
            refine takeInH 11 34 ?v56 rfl rfl (by kernel_rfl) (by kernel_rfl) (by kernel_rfl) (fun _ _ _ h => h) (by kernel_rfl) hS0 ?hy56 ?_
            case hy56 => (intro W hW; clear hW; go_simp; try rfl)
            simp only [Act.put, List.setIfInBounds_toArray, List.set_cons_zero, List.set_cons_succ]
            refine wpAnyH_done (by kernel_rfl) ?_ _
            replace HO := hide (HO.out.below hS0)
            replace HB := hide (bel_next HB.out hS0)
            clear hS0 c0 c1 c2 x0 x1 x2
            generalize wr.drew = wq at *
            have c0 := bcell HB.out C0.out
            have c1 := bcell HB.out C1.out
            have c2 := bcell HB.out C2.out
            have x0 := bcell HB.out E0.out
            have x1 := bcell HB.out E1.out
            have x2 := bcell HB.out E2.out
            go_upto_region 9 with fail
            refine wp_region_held_drew (S := fun W => Below wq.heap.size wq W) (by kernel_rfl) ((Below.refl _ wq).drew) (fun hS0 => ?_)
            refine takeInH 0 39 ?v57 rfl rfl (by kernel_rfl) (by kernel_rfl) (by kernel_rfl) (fun _ _ _ h => h) (by kernel_rfl) hS0 ?hy57 ?_
            case hy57 => (intro W hW; clear hW; go_simp; try rfl)
            simp only [Act.put, List.setIfInBounds_toArray, List.set_cons_zero, List.set_cons_succ]
            refine takeInH 1 40 ?v58 rfl rfl (by kernel_rfl) (by kernel_rfl) (by kernel_rfl) (fun _ _ _ h => h) (by kernel_rfl) hS0 ?hy58 ?_
            case hy58 => (intro W hW; clear hW; go_simp; try rfl)
            simp only [Act.put, List.setIfInBounds_toArray, List.set_cons_zero, List.set_cons_succ]
            refine takeInH 2 41 ?v59 rfl rfl (by kernel_rfl) (by kernel_rfl) (by kernel_rfl) (fun _ _ _ h => h) (by kernel_rfl) hS0 ?hy59 ?_
            case hy59 => (intro W hW; clear hW; go_simp; try rfl)
            simp only [Act.put, List.setIfInBounds_toArray, List.set_cons_zero, List.set_cons_succ]
            refine takeInH 3 42 ?v60 rfl rfl (by kernel_rfl) (by kernel_rfl) (by kernel_rfl) (fun _ _ _ h => h) (by kernel_rfl) hS0 ?hy60 ?_
            case hy60 => (intro W hW; clear hW; go_simp; try rfl)
            simp only [Act.put, List.setIfInBounds_toArray, List.set_cons_zero, List.set_cons_succ]
            refine takeInH 4 43 ?v61 rfl rfl (by kernel_rfl) (by kernel_rfl) (by kernel_rfl) (fun _ _ _ h => h) (by kernel_rfl) hS0 ?hy61 ?_
            case hy61 => (intro W hW; have e0 := bcell hW c0; have e1 := bcell hW x0; clear hW; go_simp; try rfl)
            simp only [Act.put, List.setIfInBounds_toArray, List.set_cons_zero, List.set_cons_succ]
            refine takeInH 5 44 ?v62 rfl rfl (by kernel_rfl) (by kernel_rfl) (by kernel_rfl) (fun _ _ _ h => h) (by kernel_rfl) hS0 ?hy62 ?_
            case hy62 => (intro W hW; clear hW; go_simp; try rfl)
            simp only [Act.put, List.setIfInBounds_toArray, List.set_cons_zero, List.set_cons_succ]
            refine takeInH 6 45 ?v63 rfl rfl (by kernel_rfl) (by kernel_rfl) (by kernel_rfl) (fun _ _ _ h => h) (by kernel_rfl) hS0 ?hy63 ?_
            case hy63 => (intro W hW; have e0 := bcell hW c0; have e1 := bcell hW x0; clear hW; go_simp; try rfl)
            simp only [Act.put, List.setIfInBounds_toArray, List.set_cons_zero, List.set_cons_succ]
            refine takeInH 7 46 ?v64 rfl rfl (by kernel_rfl) (by kernel_rfl) (by kernel_rfl) (fun _ _ _ h => h) (by kernel_rfl) hS0 ?hy64 ?_
            case hy64 => (intro W hW; clear hW; go_simp; try rfl)
            simp only [Act.put, List.setIfInBounds_toArray, List.set_cons_zero, List.set_cons_succ]
            refine wpAnyH_done (by kernel_rfl) ?_ _
            replace HO := hide (HO.out.below hS0)
            replace HB := hide (bel_next HB.out hS0)
            clear hS0 c0 c1 c2 x0 x1 x2
            generalize wq.drew = wq2 at *
            have c0 := bcell HB.out C0.out
            have c1 := bcell HB.out C1.out
            have c2 := bcell HB.out C2.out
            have x0 := bcell HB.out E0.out
            have x1 := bcell HB.out E1.out
            have x2 := bcell HB.out E2.out
            go_wp2_with (at_builtin; refine Stop.at ?_)
            unfold Stop
            have HBq := hide (bel1 wq2 (.cells #[.string k, .slice pl nl cl, .slice pd nd cd] 48))
            have HB3 := hide (bel_next HB.out HBq.out)
            refine append_en rfl _ _ rfl w0.heap.size _ _ [(k, ll, mm)] rfl (HO.out.below HBq.out) (some ⟨wq2.heap.size, 0, none⟩) 1 1 rfl (fun h => by cases h) [(k, (pl, nl, cl), (pd, nd, cd))] (RSN.one wq2 (k, (pl, nl, cl), (pd, nd, cd)) _ rfl 48 (0, 0)) (Rels.one ⟨rfl, ⟨HXL.out.below HB3.out, HXC.out⟩, ⟨HXD.out.below HB3.out, HXE.out⟩⟩) (fun y hy => by
              rw [List.mem_singleton] at hy
              subst hy
              exact ⟨Lo.old HXL.out (Nat.le_refl _) HB3.out.size, Lo.old HXD.out (Nat.le_refl _) HB3.out.size⟩) (by have := HLO.out; first | (rw [List.length_singleton]; omega) | (rw [List.length_append, List.length_singleton, List.length_singleton]; omega)) HB3.out.size ?_
            intro v3 w3 ho3 _ hbel3
            replace HO := hide ho3
            replace HB := hide (hbel3 _ HB3.out)
            clear ho3 hbel3 HB3 HBq
            clear c0 c1 c2 x0 x1 x2
            go_wp2
            go_roundw
            case rel => exact ⟨k0 + 1, _, true, by omega, by go_num, rfl, HO, HPF2, HB⟩
            case measure => simp [intOf]; omega
      · have hl : ltK k t = true := hq
        have hk : k ≠ t := ltK_ne hl
        have hqe : (k.toList == t.toList) = false := by rw [eqK, decide_eq_false hk]
        cases d
        · have HPF2 : Hid (putF t l (s.drop (k0 + 1)) (out ++ [(k, ll, mm)]) false = putS s t l) := by
            have q := HPF.out
            unfold Hid
            rw [List.drop_eq_getElem_cons (by rw [HLEN.out]; exact hlt), (List.getElem?_eq_some_iff.1 HX.out).2, putF] at q
            simpa [hk, hl] using q
          have c0 := bcell HB.out C0.out
          have c1 := bcell HB.out C1.out
          have c2 := bcell HB.out C2.out
          have x0 := bcell HB.out E0.out
          have x1 := bcell HB.out E1.out
          have x2 := bcell HB.out E2.out
          go_upto_region 6 with fail
          refine wp_region_held_drew (S := fun W => Below wr.heap.size wr W) (by kernel_rfl) ((Below.refl _ wr).drew) (fun hS0 => ?_)
          refine takeInH 0 23 ?v65 rfl rfl (by kernel_rfl) (by kernel_rfl) (by kernel_rfl) (fun _ _ _ h => h) (by kernel_rfl) hS0 ?hy65 ?_
          case hy65 => (intro W hW; clear hW; go_simp; try rfl)
          simp only [Act.put, List.setIfInBounds_toArray, List.set_cons_zero, List.set_cons_succ]
          refine takeInH 1 24 ?v66 rfl rfl (by kernel_rfl) (by kernel_rfl) (by kernel_rfl) (fun _ _ _ h => h) (by kernel_rfl) hS0 ?hy66 ?_
          case hy66 => (intro W hW; clear hW; go_simp; try rfl)
          simp only [Act.put, List.setIfInBounds_toArray, List.set_cons_zero, List.set_cons_succ]
          refine takeInH 2 25 ?v67 rfl rfl (by kernel_rfl) (by kernel_rfl) (by kernel_rfl) (fun _ _ _ h => h) (by kernel_rfl) hS0 ?hy67 ?_
          case hy67 => (intro W hW; clear hW; go_simp; try rfl)
          simp only [Act.put, List.setIfInBounds_toArray, List.set_cons_zero, List.set_cons_succ]
          refine takeInH 3 26 ?v68 rfl rfl (by kernel_rfl) (by kernel_rfl) (by kernel_rfl) (fun _ _ _ h => h) (by kernel_rfl) hS0 ?hy68 ?_
          case hy68 => (intro W hW; clear hW; go_simp; try rfl)
          simp only [Act.put, List.setIfInBounds_toArray, List.set_cons_zero, List.set_cons_succ]
          refine takeInH 4 27 ?v69 rfl rfl (by kernel_rfl) (by kernel_rfl) (by kernel_rfl) (fun _ _ _ h => h) (by kernel_rfl) hS0 ?hy69 ?_
          case hy69 => (intro W hW; clear hW; go_simp; try rfl)
          simp only [Act.put, List.setIfInBounds_toArray, List.set_cons_zero, List.set_cons_succ]
          refine takeInH 5 28 ?v70 rfl rfl (by kernel_rfl) (by kernel_rfl) (by kernel_rfl) (fun _ _ _ h => h) (by kernel_rfl) hS0 ?hy70 ?_
          case hy70 => (intro W hW; clear hW; go_simp; try rfl)
          simp only [Act.put, List.setIfInBounds_toArray, List.set_cons_zero, List.set_cons_succ]
          refine takeInH 6 29 ?v71 rfl rfl (by kernel_rfl) (by kernel_rfl) (by kernel_rfl) (fun _ _ _ h => h) (by kernel_rfl) hS0 ?hy71 ?_
          case hy71 => (intro W hW; clear hW; go_simp; try rfl)
          simp only [Act.put, List.setIfInBounds_toArray, List.set_cons_zero, List.set_cons_succ]
          refine takeInH 7 30 ?v72 rfl rfl (by kernel_rfl) (by kernel_rfl) (by kernel_rfl) (fun _ _ _ h => h) (by kernel_rfl) hS0 ?hy72 ?_
          case hy72 => (intro W hW; have e0 := bcell hW c0; have e1 := bcell hW x0; clear hW; go_simp; try rfl)
          simp only [Act.put, List.setIfInBounds_toArray, List.set_cons_zero, List.set_cons_succ]
          refine takeInH 8 31 ?v73 rfl rfl (by kernel_rfl) (by kernel_rfl) (by kernel_rfl) (fun _ _ _ h => h) (by kernel_rfl) hS0 ?hy73 ?_
          case hy73 => (intro W hW; clear hW; go_simp; try rfl)
          simp only [Act.put, List.setIfInBounds_toArray, List.set_cons_zero, List.set_cons_succ]
          refine takeInH 9 32 ?v74 rfl rfl (by kernel_rfl) (by kernel_rfl) (by kernel_rfl) (fun _ _ _ h => h) (by kernel_rfl) hS0 ?hy74 ?_
          case hy74 => (intro W hW; have e0 := bcell hW c0; have e1 := bcell hW x0; clear hW; go_simp; try rfl)
          simp only [Act.put, List.setIfInBounds_toArray, List.set_cons_zero, List.set_cons_succ]
          refine takeInH 10 33 ?v75 rfl rfl (by kernel_rfl) (by kernel_rfl) (by kernel_rfl) (fun _ _ _ h => h) (by kernel_rfl) hS0 ?hy75 ?_
          case hy75 => (intro W hW; clear hW; go_simp; try rfl)
          simp only [Act.put, List.setIfInBounds_toArray, List.set_cons_zero, List.set_cons_succ]
          refine takeInH 11 34 ?v76 rfl rfl (by kernel_rfl) (by kernel_rfl) (by kernel_rfl) (fun _ _ _ h => h) (by kernel_rfl) hS0 ?hy76 ?_
          case hy76 => (intro W hW; clear hW; go_simp; try rfl)
          simp only [Act.put, List.setIfInBounds_toArray, List.set_cons_zero, List.set_cons_succ]
          refine wpAnyH_done (by kernel_rfl) ?_ _
          replace HO := hide (HO.out.below hS0)
          replace HB := hide (bel_next HB.out hS0)
          clear hS0 c0 c1 c2 x0 x1 x2
          generalize wr.drew = wq at *
          have c0 := bcell HB.out C0.out
          have c1 := bcell HB.out C1.out
          have c2 := bcell HB.out C2.out
          have x0 := bcell HB.out E0.out
          have x1 := bcell HB.out E1.out
          have x2 := bcell HB.out E2.out
          go_upto_region 9 with fail
          refine wp_region_held_drew (S := fun W => Below wq.heap.size wq W) (by kernel_rfl) ((Below.refl _ wq).drew) (fun hS0 => ?_)
          refine takeInH 0 39 ?v77 rfl rfl (by kernel_rfl) (by kernel_rfl) (by kernel_rfl) (fun _ _ _ h => h) (by kernel_rfl) hS0 ?hy77 ?_
          case hy77 => (intro W hW; clear hW; go_simp; try rfl)
          simp only [Act.put, List.setIfInBounds_toArray, List.set_cons_zero, List.set_cons_succ]
          refine takeInH 1 40 ?v78 rfl rfl (by kernel_rfl) (by kernel_rfl) (by kernel_rfl) (fun _ _ _ h => h) (by kernel_rfl) hS0 ?hy78 ?_
          case hy78 => (intro W hW; clear hW; go_simp; try rfl)
          simp only [Act.put, List.setIfInBounds_toArray, List.set_cons_zero, List.set_cons_succ]
          refine takeInH 2 41 ?v79 rfl rfl (by kernel_rfl) (by kernel_rfl) (by kernel_rfl) (fun _ _ _ h => h) (by kernel_rfl) hS0 ?hy79 ?_
          case hy79 => (intro W hW; clear hW; go_simp; try rfl)
          simp only [Act.put, List.setIfInBounds_toArray, List.set_cons_zero, List.set_cons_succ]
          refine takeInH 3 42 ?v80 rfl rfl (by kernel_rfl) (by kernel_rfl) (by kernel_rfl) (fun _ _ _ h => h) (by kernel_rfl) hS0 ?hy80 ?_
          case hy80 => (intro W hW; clear hW; go_simp; try rfl)
          simp only [Act.put, List.setIfInBounds_toArray, List.set_cons_zero, List.set_cons_succ]
          refine takeInH 4 43 ?v81 rfl rfl (by kernel_rfl) (by kernel_rfl) (by kernel_rfl) (fun _ _ _ h => h) (by kernel_rfl) hS0 ?hy81 ?_
          case hy81 => (intro W hW; have e0 := bcell hW c0; have e1 := bcell hW x0; clear hW; go_simp; try rfl)
          simp only [Act.put, List.setIfInBounds_toArray, List.set_cons_zero, List.set_cons_succ]
          refine takeInH 5 44 ?v82 rfl rfl (by kernel_rfl) (by kernel_rfl) (by kernel_rfl) (fun _ _ _ h => h) (by kernel_rfl) hS0 ?hy82 ?_
          case hy82 => (intro W hW; clear hW; go_simp; try rfl)
          simp only [Act.put, List.setIfInBounds_toArray, List.set_cons_zero, List.set_cons_succ]
          refine takeInH 6 45 ?v83 rfl rfl (by kernel_rfl) (by kernel_rfl) (by kernel_rfl) (fun _ _ _ h => h) (by kernel_rfl) hS0 ?hy83 ?_
          case hy83 => (intro W hW; have e0 := bcell hW c0; have e1 := bcell hW x0; clear hW; go_simp; try rfl)
          simp only [Act.put, List.setIfInBounds_toArray, List.set_cons_zero, List.set_cons_succ]
          refine takeInH 7 46 ?v84 rfl rfl (by kernel_rfl) (by kernel_rfl) (by kernel_rfl) (fun _ _ _ h => h) (by kernel_rfl) hS0 ?hy84 ?_
          case hy84 => (intro W hW; clear hW; go_simp; try rfl)
          simp only [Act.put, List.setIfInBounds_toArray, List.set_cons_zero, List.set_cons_succ]
          refine wpAnyH_done (by kernel_rfl) ?_ _
          replace HO := hide (HO.out.below hS0)
          replace HB := hide (bel_next HB.out hS0)
          clear hS0 c0 c1 c2 x0 x1 x2
          generalize wq.drew = wq2 at *
          have c0 := bcell HB.out C0.out
          have c1 := bcell HB.out C1.out
          have c2 := bcell HB.out C2.out
          have x0 := bcell HB.out E0.out
          have x1 := bcell HB.out E1.out
          have x2 := bcell HB.out E2.out
          go_wp2_with (at_builtin; refine Stop.at ?_)
          unfold Stop
          have HBq := hide (bel1 wq2 (.cells #[.string k, .slice pl nl cl, .slice pd nd cd] 48))
          have HB3 := hide (bel_next HB.out HBq.out)
          refine append_en rfl _ _ rfl w0.heap.size _ _ [(k, ll, mm)] rfl (HO.out.below HBq.out) (some ⟨wq2.heap.size, 0, none⟩) 1 1 rfl (fun h => by cases h) [(k, (pl, nl, cl), (pd, nd, cd))] (RSN.one wq2 (k, (pl, nl, cl), (pd, nd, cd)) _ rfl 48 (0, 0)) (Rels.one ⟨rfl, ⟨HXL.out.below HB3.out, HXC.out⟩, ⟨HXD.out.below HB3.out, HXE.out⟩⟩) (fun y hy => by
            rw [List.mem_singleton] at hy
            subst hy
            exact ⟨Lo.old HXL.out (Nat.le_refl _) HB3.out.size, Lo.old HXD.out (Nat.le_refl _) HB3.out.size⟩) (by have := HLO.out; first | (rw [List.length_singleton]; omega) | (rw [List.length_append, List.length_singleton, List.length_singleton]; omega)) HB3.out.size ?_
          intro v3 w3 ho3 _ hbel3
          replace HO := hide ho3
          replace HB := hide (hbel3 _ HB3.out)
          clear ho3 hbel3 HB3 HBq
          clear c0 c1 c2 x0 x1 x2
          go_wp2
          go_roundw
          case rel => exact ⟨k0 + 1, _, false, by omega, by go_num, rfl, HO, HPF2, HB⟩
          case measure => simp [intOf]; omega
        · have HPF2 : Hid (putF t l (s.drop (k0 + 1)) (out ++ [(k, ll, mm)]) true = putS s t l) := by
            have q := HPF.out
            unfold Hid
            rw [List.drop_eq_getElem_cons (by rw [HLEN.out]; exact hlt), (List.getElem?_eq_some_iff.1 HX.out).2, putF] at q
            simpa [hk] using q
          have c0 := bcell HB.out C0.out
          have c1 := bcell HB.out C1.out
          have c2 := bcell HB.out C2.out
          have x0 := bcell HB.out E0.out
          have x1 := bcell HB.out E1.out
          have x2 := bcell HB.out E2.out
          go_upto_region 6 with fail
          refine wp_region_held_drew (S := fun W => Below wr.heap.size wr W) (by kernel_rfl) ((Below.refl _ wr).drew) (fun hS0 => ?_)
          refine takeInH 0 23 ?v85 rfl rfl (by kernel_rfl) (by kernel_rfl) (by kernel_rfl) (fun _ _ _ h => h) (by kernel_rfl) hS0 ?hy85 ?_
          case hy85 => (intro W hW; clear hW; go_simp; try rfl)
          simp only [Act.put, List.setIfInBounds_toArray, List.set_cons_zero, List.set_cons_succ]
          refine takeInH 1 24 ?v86 rfl rfl (by kernel_rfl) (by kernel_rfl) (by kernel_rfl) (fun _ _ _ h => h) (by kernel_rfl) hS0 ?hy86 ?_
          case hy86 => (intro W hW; clear hW; go_simp; try rfl)
          simp only [Act.put, List.setIfInBounds_toArray, List.set_cons_zero, List.set_cons_succ]
          refine takeInH 2 25 ?v87 rfl rfl (by kernel_rfl) (by kernel_rfl) (by kernel_rfl) (fun _ _ _ h => h) (by kernel_rfl) hS0 ?hy87 ?_
          case hy87 => (intro W hW; clear hW; go_simp; try rfl)
          simp only [Act.put, List.setIfInBounds_toArray, List.set_cons_zero, List.set_cons_succ]
          refine takeNoH 3 26 rfl rfl (by kernel_rfl) (by kernel_rfl) (by kernel_rfl) (fun _ _ _ h => h) (by kernel_rfl) hS0 ?_
          simp only [Act.put, List.setIfInBounds_toArray, List.set_cons_zero, List.set_cons_succ]
          refine takeNoH 4 27 rfl rfl (by kernel_rfl) (by kernel_rfl) (by kernel_rfl) (fun _ _ _ h => h) (by kernel_rfl) hS0 ?_
          simp only [Act.put, List.setIfInBounds_toArray, List.set_cons_zero, List.set_cons_succ]
          refine takeNoH 5 28 rfl rfl (by kernel_rfl) (by kernel_rfl) (by kernel_rfl) (fun _ _ _ h => h) (by kernel_rfl) hS0 ?_
          simp only [Act.put, List.setIfInBounds_toArray, List.set_cons_zero, List.set_cons_succ]
          refine takeNoH 6 29 rfl rfl (by kernel_rfl) (by kernel_rfl) (by kernel_rfl) (fun _ _ _ h => h) (by kernel_rfl) hS0 ?_
          simp only [Act.put, List.setIfInBounds_toArray, List.set_cons_zero, List.set_cons_succ]
          refine takeNoH 7 30 rfl rfl (by kernel_rfl) (by kernel_rfl) (by kernel_rfl) (fun _ _ _ h => h) (by kernel_rfl) hS0 ?_
          simp only [Act.put, List.setIfInBounds_toArray, List.set_cons_zero, List.set_cons_succ]
          refine takeNoH 8 31 rfl rfl (by kernel_rfl) (by kernel_rfl) (by kernel_rfl) (fun _ _ _ h => h) (by kernel_rfl) hS0 ?_
          simp only [Act.put, List.setIfInBounds_toArray, List.set_cons_zero, List.set_cons_succ]
          refine takeNoH 9 32 rfl rfl (by kernel_rfl) (by kernel_rfl) (by kernel_rfl) (fun _ _ _ h => h) (by kernel_rfl) hS0 ?_
          simp only [Act.put, List.setIfInBounds_toArray, List.set_cons_zero, List.set_cons_succ]
          refine takeNoH 10 33 rfl rfl (by kernel_rfl) (by kernel_rfl) (by kernel_rfl) (fun _ _ _ h => h) (by kernel_rfl) hS0 ?_
          simp only [Act.put, List.setIfInBounds_toArray, List.set_cons_zero, List.set_cons_succ]
          refine takeInH 11 34 ?v88 rfl rfl (by kernel_rfl) (by kernel_rfl) (by kernel_rfl) (fun _ _ _ h => h) (by kernel_rfl) hS0 ?hy88 ?_
          case hy88 => (intro W hW; clear hW; go_simp; try rfl)
          simp only [Act.put, List.setIfInBounds_toArray, List.set_cons_zero, List.set_cons_succ]
          refine wpAnyH_done (by kernel_rfl) ?_ _
          replace HO := hide (HO.out.below hS0)
          replace HB := hide (bel_next HB.out hS0)
          clear hS0 c0 c1 c2 x0 x1 x2
          generalize wr.drew = wq at *
          have c0 := bcell HB.out C0.out
          have c1 := bcell HB.out C1.out
          have c2 := bcell HB.out C2.out
          have x0 := bcell HB.out E0.out
          have x1 := bcell HB.out E1.out
          have x2 := bcell HB.out E2.out
          go_upto_region 9 with fail
          refine wp_region_held_drew (S := fun W => Below wq.heap.size wq W) (by kernel_rfl) ((Below.refl _ wq).drew) (fun hS0 => ?_)
          refine takeInH 0 39 ?v89 rfl rfl (by kernel_rfl) (by kernel_rfl) (by kernel_rfl) (fun _ _ _ h => h) (by kernel_rfl) hS0 ?hy89 ?_
          case hy89 => (intro W hW; clear hW; go_simp; try rfl)
          simp only [Act.put, List.setIfInBounds_toArray, List.set_cons_zero, List.set_cons_succ]
          refine takeInH 1 40 ?v90 rfl rfl (by kernel_rfl) (by kernel_rfl) (by kernel_rfl) (fun _ _ _ h => h) (by kernel_rfl) hS0 ?hy90 ?_
          case hy90 => (intro W hW; clear hW; go_simp; try rfl)
          simp only [Act.put, List.setIfInBounds_toArray, List.set_cons_zero, List.set_cons_succ]
          refine takeInH 2 41 ?v91 rfl rfl (by kernel_rfl) (by kernel_rfl) (by kernel_rfl) (fun _ _ _ h => h) (by kernel_rfl) hS0 ?hy91 ?_
          case hy91 => (intro W hW; clear hW; go_simp; try rfl)
          simp only [Act.put, List.setIfInBounds_toArray, List.set_cons_zero, List.set_cons_succ]
          refine takeInH 3 42 ?v92 rfl rfl (by kernel_rfl) (by kernel_rfl) (by kernel_rfl) (fun _ _ _ h => h) (by kernel_rfl) hS0 ?hy92 ?_
          case hy92 => (intro W hW; clear hW; go_simp; try rfl)
          simp only [Act.put, List.setIfInBounds_toArray, List.set_cons_zero, List.set_cons_succ]
          refine takeInH 4 43 ?v93 rfl rfl (by kernel_rfl) (by kernel_rfl) (by kernel_rfl) (fun _ _ _ h => h) (by kernel_rfl) hS0 ?hy93 ?_
          case hy93 => (intro W hW; have e0 := bcell hW c0; have e1 := bcell hW x0; clear hW; go_simp; try rfl)
          simp only [Act.put, List.setIfInBounds_toArray, List.set_cons_zero, List.set_cons_succ]
          refine takeInH 5 44 ?v94 rfl rfl (by kernel_rfl) (by kernel_rfl) (by kernel_rfl) (fun _ _ _ h => h) (by kernel_rfl) hS0 ?hy94 ?_
          case hy94 => (intro W hW; clear hW; go_simp; try rfl)
          simp only [Act.put, List.setIfInBounds_toArray, List.set_cons_zero, List.set_cons_succ]
          refine takeInH 6 45 ?v95 rfl rfl (by kernel_rfl) (by kernel_rfl) (by kernel_rfl) (fun _ _ _ h => h) (by kernel_rfl) hS0 ?hy95 ?_
          case hy95 => (intro W hW; have e0 := bcell hW c0; have e1 := bcell hW x0; clear hW; go_simp; try rfl)
          simp only [Act.put, List.setIfInBounds_toArray, List.set_cons_zero, List.set_cons_succ]
          refine takeInH 7 46 ?v96 rfl rfl (by kernel_rfl) (by kernel_rfl) (by kernel_rfl) (fun _ _ _ h => h) (by kernel_rfl) hS0 ?hy96 ?_
          case hy96 => (intro W hW; clear hW; go_simp; try rfl)
          simp only [Act.put, List.setIfInBounds_toArray, List.set_cons_zero, List.set_cons_succ]
          refine wpAnyH_done (by kernel_rfl) ?_ _
          replace HO := hide (HO.out.below hS0)
          replace HB := hide (bel_next HB.out hS0)
          clear hS0 c0 c1 c2 x0 x1 x2
          generalize wq.drew = wq2 at *
          have c0 := bcell HB.out C0.out
          have c1 := bcell HB.out C1.out
          have c2 := bcell HB.out C2.out
          have x0 := bcell HB.out E0.out
          have x1 := bcell HB.out E1.out
          have x2 := bcell HB.out E2.out
          go_wp2_with (at_builtin; refine Stop.at ?_)
          unfold Stop
          have HBq := hide (bel1 wq2 (.cells #[.string k, .slice pl nl cl, .slice pd nd cd] 48))
          have HB3 := hide (bel_next HB.out HBq.out)
          refine append_en rfl _ _ rfl w0.heap.size _ _ [(k, ll, mm)] rfl (HO.out.below HBq.out) (some ⟨wq2.heap.size, 0, none⟩) 1 1 rfl (fun h => by cases h) [(k, (pl, nl, cl), (pd, nd, cd))] (RSN.one wq2 (k, (pl, nl, cl), (pd, nd, cd)) _ rfl 48 (0, 0)) (Rels.one ⟨rfl, ⟨HXL.out.below HB3.out, HXC.out⟩, ⟨HXD.out.below HB3.out, HXE.out⟩⟩) (fun y hy => by
            rw [List.mem_singleton] at hy
            subst hy
            exact ⟨Lo.old HXL.out (Nat.le_refl _) HB3.out.size, Lo.old HXD.out (Nat.le_refl _) HB3.out.size⟩) (by have := HLO.out; first | (rw [List.length_singleton]; omega) | (rw [List.length_append, List.length_singleton, List.length_singleton]; omega)) HB3.out.size ?_
          intro v3 w3 ho3 _ hbel3
          replace HO := hide ho3
          replace HB := hide (hbel3 _ HB3.out)
          clear ho3 hbel3 HB3 HBq
          clear c0 c1 c2 x0 x1 x2
          go_wp2
          go_roundw
          case rel => exact ⟨k0 + 1, _, true, by omega, by go_num, rfl, HO, HPF2, HB⟩
          case measure => simp [intOf]; omega
    · obtain rfl : k0 = n := by omega
      have q := HPF.out
      rw [List.drop_eq_nil_of_le (by rw [HLEN.out]; exact Nat.le_refl _), putF] at q
      have HLO : Hid (out.length ≤ k0 + 1) := by
        have := putF_len t l (s.drop k0) out d
        rw [HPF.out] at this
        exact Nat.le_trans this HPL.out
      cases d
      · have HQ : Hid (out ++ [(t, l, [])] = putS s t l) := q
        have x0 := bcell HB.out E0.out
        have x1 := bcell HB.out E1.out
        have x2 := bcell HB.out E2.out
        clear q HPF
        generalize wr = wq at *
        go_wp2_with (at_builtin; refine Stop.at ?_)
        unfold Stop
        have HBq := hide (bel1 wq (.cells #[.string t, .slice pv nv cv, .slice none 0 0] 48))
        have HB3 := hide (bel_next HB.out HBq.out)
        refine append_en rfl _ _ rfl w0.heap.size _ _ [(t, l, [])] rfl (HO.out.below HBq.out) (some ⟨wq.heap.size, 0, none⟩) 1 1 rfl (fun h => by cases h) [(t, (pv, nv, cv), (none, 0, 0))] (RSN.one wq (t, (pv, nv, cv), (none, 0, 0)) _ rfl 48 (0, 0)) (Rels.one ⟨rfl, ⟨HL.out.below HB3.out, HCL.out⟩, DC.nil _⟩) (fun y hy => by
          rw [List.mem_singleton] at hy
          subst hy
          exact ⟨Lo.old HL.out (Nat.le_refl _) HB3.out.size, Lo.none _ _⟩) (by have := HLO.out; first | (rw [List.length_singleton]; omega) | (rw [List.length_append, List.length_singleton, List.length_singleton]; omega)) HB3.out.size ?_
        intro v3 w3 ho3 _ hbel3
        replace HO := hide ho3
        replace HB := hide (hbel3 _ HB3.out)
        clear ho3 hbel3 HB3 HBq
        rw [HQ.out] at HO
        obtain ⟨p9, c9, rfl, h9, h8⟩ := HO.out.open
        have H9 := hide h9
        have H8 := hide h8
        clear x0 x1 x2 h9 h8
        go_wp2
        go_ret
        exact ⟨p9, c9, rfl, H9.out, H8.out, bel_next HB0.out HB.out⟩
      · have HQ : Hid (out = putS s t l) := q
        clear q HPF
        rw [HQ.out] at HO
        obtain ⟨p9, c9, rfl, h9, h8⟩ := HO.out.open
        have H9 := hide h9
        have H8 := hide h8
        clear h9 h8
        go_wp2
        go_ret
        exact ⟨p9, c9, rfl, H9.out, H8.out, bel_next HB0.out HB.out⟩
end Go.Proofs.Ytiodlpoeifmldaa
