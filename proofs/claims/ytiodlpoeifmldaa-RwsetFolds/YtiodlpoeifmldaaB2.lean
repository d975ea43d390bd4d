/- The document's Left and Get (layer 8). -/
import Derived.Test.YtiodlpoeifmldaaA4
import Derived.Test.YtiodlpoeifmldaaGPut
namespace Go.Proofs.Ytiodlpoeifmldaa
open Go.RowKit Go.Lib
set_option linter.unusedVariables false
theorem left_yes {l : List Dot} {k : Nat} {d : Dot} {c : List Int} (hx : l[k]? = some d) (h : getZ c d.1 < d.2) : leftD (l.take (k + 1)) c = leftD (l.take k) c ++ [d] := by
  rw [take_snocL hx]
  unfold leftD
  rw [List.filter_append]
  simp [h]
theorem left_no {l : List Dot} {k : Nat} {d : Dot} {c : List Int} (hx : l[k]? = some d) (h : ¬ getZ c d.1 < d.2) : leftD (l.take (k + 1)) c = leftD (l.take k) c := by
  rw [take_snocL hx]
  unfold leftD
  rw [List.filter_append]
  simp [h]
set_option maxHeartbeats 2000000 in
theorem LeftR_any (p : Option Addr) (n cap : Nat) (l : List Dot) (pa : Option Addr) (na ca : Nat) (c : List Int) (w : World) (hA : DS w p n l) (hP : NS w pa na c) (hn : n ≤ 100000) : Calls Try.prog 40 #[.slice p n cap, .slice pa na ca] w fun e w' => ∃ v, e = .returned v ∧ OwnD w.heap.size w' v (leftD l c) ∧ Below w.heap.size w w' := by
  have HV := hide hA
  have HP := hide hP
  have HLEN := hide hA.1
  clear hA hP
  have HO0 := hide (OwnD.made w w.heap.size w.heap.size rfl (Nat.le_refl _))
  have HB0 := hide (bel1 w (.cells #[] 24))
  go_enter Try.func40, Try.ntmps40
  go_wp2
  go_loopw [5, 6] (fun V i wr => ∃ k : Nat, k ≤ n ∧ i = .int .i64 k ∧ Hid (OwnD w.heap.size wr V (leftD (l.take k) c)) ∧ Hid (Below w.heap.size w wr)) (fun _ i _ => n - (intOf i).toNat)
  case atStart => exact ⟨0, by omega, rfl, HO0, HB0⟩
  case round =>
    clear HO0 HB0
    obtain ⟨k, hk, rfl, HO, HB⟩ := hrel
    by_cases hlt : k < n
    · obtain ⟨b, off, rfl⟩ := HV.out.addr (by omega)
      obtain ⟨r, s, hx, c0, c1⟩ := (HV.out.below HB.out).one k hlt
      have hk0 : (0 : Int) ≤ (k : Int) := by omega
      have hk1 : (k : Int) < (n : Int) := by omega
      go_upto_region 5 with fail
      by_cases hkn : getZ c r < s
      · have HF2 := hide (left_yes (c := c) hx hkn)
        have HKN := hide hkn
        have HBX : Hid (∀ k, (leftD (l.take k) c).length ≤ n) := fun k => by
          refine Nat.le_trans (List.length_filter_le _ _) ?_
          rw [List.length_take, HLEN.out]
          omega
        clear hx
        refine wp_region_held_drew (S := fun W => Below wr.heap.size wr W) (by kernel_rfl) ((Below.refl _ wr).drew) (fun hS0 => ?_)
        refine takeInH 0 14 ?v1 rfl rfl (by kernel_rfl) (by kernel_rfl) (by kernel_rfl) (fun _ _ _ h => h) (by kernel_rfl) hS0 ?hy1 ?_
        case hy1 => (intro W hW; clear hW; go_simp; try rfl)
        simp only [Act.put, List.setIfInBounds_toArray, List.set_cons_zero, List.set_cons_succ]
        refine takeInH 1 15 ?v2 rfl rfl (by kernel_rfl) (by kernel_rfl) (by kernel_rfl) (fun _ _ _ h => h) (by kernel_rfl) hS0 ?hy2 ?_
        case hy2 => (intro W hW; clear hW; go_simp; try rfl)
        simp only [Act.put, List.setIfInBounds_toArray, List.set_cons_zero, List.set_cons_succ]
        refine takeInH 2 16 ?v3 rfl rfl (by kernel_rfl) (by kernel_rfl) (by kernel_rfl) (fun _ _ _ h => h) (by kernel_rfl) hS0 ?hy3 ?_
        case hy3 => (intro W hW; clear hW; go_simp; try rfl)
        simp only [Act.put, List.setIfInBounds_toArray, List.set_cons_zero, List.set_cons_succ]
        refine takeInH 3 17 ?v4 rfl rfl (by kernel_rfl) (by kernel_rfl) (by kernel_rfl) (fun _ _ _ h => h) (by kernel_rfl) hS0 ?hy4 ?_
        case hy4 => (intro W hW; clear hW; go_simp; try rfl)
        simp only [Act.put, List.setIfInBounds_toArray, List.set_cons_zero, List.set_cons_succ]
        refine takeInH 4 18 ?v5 rfl rfl (by kernel_rfl) (by kernel_rfl) (by kernel_rfl) (fun _ _ _ h => h) (by kernel_rfl) hS0 ?hy5 ?_
        case hy5 => (intro W hW; have e0 := bcell hW c0; have e1 := bcell hW c1; clear hW; go_simp; try rfl)
        simp only [Act.put, List.setIfInBounds_toArray, List.set_cons_zero, List.set_cons_succ]
        refine takeInH 5 19 ?v6 rfl rfl (by kernel_rfl) (by kernel_rfl) (by kernel_rfl) (fun _ _ _ h => h) (by kernel_rfl) hS0 ?hy6 ?_
        case hy6 => (intro W hW; clear hW; go_simp; try rfl)
        simp only [Act.put, List.setIfInBounds_toArray, List.set_cons_zero, List.set_cons_succ]
        refine takeInH 6 20 ?v7 rfl rfl (by kernel_rfl) (by kernel_rfl) (by kernel_rfl) (fun _ _ _ h => h) (by kernel_rfl) hS0 ?hy7 ?_
        case hy7 => (intro W hW; clear hW; go_simp; try rfl)
        simp only [Act.put, List.setIfInBounds_toArray, List.set_cons_zero, List.set_cons_succ]
        refine takeInH 7 21 ?v8 rfl rfl (by kernel_rfl) (by kernel_rfl) (by kernel_rfl) (fun _ _ _ h => h) (by kernel_rfl) hS0 ?hy8 ?_
        case hy8 => (intro W hW; clear hW; go_simp; try rfl)
        simp only [Act.put, List.setIfInBounds_toArray, List.set_cons_zero, List.set_cons_succ]
        refine takeInH 8 22 ?v9 rfl rfl (by kernel_rfl) (by kernel_rfl) (by kernel_rfl) (fun _ _ _ h => h) (by kernel_rfl) hS0 ?hy9 ?_
        case hy9 => (intro W hW; clear hW; go_simp; try rfl)
        simp only [Act.put, List.setIfInBounds_toArray, List.set_cons_zero, List.set_cons_succ]
        refine takeInH 9 23 ?v10 rfl rfl (by kernel_rfl) (by kernel_rfl) (by kernel_rfl) (fun _ _ _ h => h) (by kernel_rfl) hS0 ?hy10 ?_
        case hy10 => (intro W hW; clear hW; go_simp; try rfl)
        simp only [Act.put, List.setIfInBounds_toArray, List.set_cons_zero, List.set_cons_succ]
        refine takeInH 10 24 ?v11 rfl rfl (by kernel_rfl) (by kernel_rfl) (by kernel_rfl) (fun _ _ _ h => h) (by kernel_rfl) hS0 ?hy11 ?_
        case hy11 => (intro W hW; have e0 := bcell hW c0; have e1 := bcell hW c1; clear hW; go_simp; try rfl)
        simp only [Act.put, List.setIfInBounds_toArray, List.set_cons_zero, List.set_cons_succ]
        refine wpAnyH_ready (rs := [11]) (by kernel_rfl) (by simp) ?_
        refine AllReadyH.cons rfl (fun K hK => ?_) AllReadyH.nil
        go_simp
        refine (get_refZ pa na ca c r _ (HP.out.below (bel_next HB.out hS0))).mono ?_
        rintro e w' ⟨rfl, hw⟩
        replace hw := hw.symm
        subst hw
        refine hK.out _ _ ?hs12 (fun hS1 => ?_)
        case hs12 => exact hS0
        clear hK K
        try simp only [Act.put, List.setIfInBounds_toArray, List.set_cons_zero, List.set_cons_succ]
        refine takeInH 12 26 ?v13 rfl rfl (by kernel_rfl) (by kernel_rfl) (by kernel_rfl) (fun _ _ _ h => h) (by kernel_rfl) hS1 ?hy13 ?_
        case hy13 => (intro W hW; clear hW; go_simp; try rfl)
        simp only [Act.put, List.setIfInBounds_toArray, List.set_cons_zero, List.set_cons_succ]
        refine wpAnyH_done (by kernel_rfl) ?_ _
        generalize getZ c r = gz at *
        replace c0 := bcell hS1 c0
        replace c1 := bcell hS1 c1
        replace HO := hide (HO.out.below hS1)
        replace HB := hide (bel_next HB.out hS1)
        clear hS1
        generalize wr.drew = wq at *
        go_wp2_with (at_builtin; refine Stop.at ?_)
        unfold Stop
        have HBq := hide (bel1 wq (.cells #[.int .i64 r, .int .i64 s] 24))
        have HB3 := hide (bel_next HB.out HBq.out)
        refine append_dots rfl _ _ rfl w.heap.size u5 _ [(r, s)] rfl (HO.out.below HBq.out) (some ⟨wq.heap.size, 0, none⟩) 1 1 rfl (fun h => by cases h) (DS.new wq _ rfl [(r, s)] _ (by simp [flatD, encD]) 24 (0, 0) 1 rfl (by decide)) (by have := HBX.out k; rw [List.length_singleton]; omega) HB3.out.size ?_
        intro v3 w3 ho3 hbel3
        have HO3 := hide ho3
        rw [← HF2.out] at HO3
        have HB4 := hide (hbel3 _ HB3.out)
        clear ho3 hbel3 HB3 HBq HO HB
        go_wp2
        go_roundw
        case rel => exact ⟨k + 1, by omega, by go_num, HO3, HB4⟩
        case measure => simp [intOf]; omega
      · have HF2 := hide (left_no (c := c) hx hkn)
        have HKN := hide hkn
        clear hx
        refine wp_region_held_drew (S := fun W => Below wr.heap.size wr W) (by kernel_rfl) ((Below.refl _ wr).drew) (fun hS0 => ?_)
        refine takeInH 0 14 ?v14 rfl rfl (by kernel_rfl) (by kernel_rfl) (by kernel_rfl) (fun _ _ _ h => h) (by kernel_rfl) hS0 ?hy14 ?_
        case hy14 => (intro W hW; clear hW; go_simp; try rfl)
        simp only [Act.put, List.setIfInBounds_toArray, List.set_cons_zero, List.set_cons_succ]
        refine takeInH 1 15 ?v15 rfl rfl (by kernel_rfl) (by kernel_rfl) (by kernel_rfl) (fun _ _ _ h => h) (by kernel_rfl) hS0 ?hy15 ?_
        case hy15 => (intro W hW; clear hW; go_simp; try rfl)
        simp only [Act.put, List.setIfInBounds_toArray, List.set_cons_zero, List.set_cons_succ]
        refine takeInH 2 16 ?v16 rfl rfl (by kernel_rfl) (by kernel_rfl) (by kernel_rfl) (fun _ _ _ h => h) (by kernel_rfl) hS0 ?hy16 ?_
        case hy16 => (intro W hW; clear hW; go_simp; try rfl)
        simp only [Act.put, List.setIfInBounds_toArray, List.set_cons_zero, List.set_cons_succ]
        refine takeInH 3 17 ?v17 rfl rfl (by kernel_rfl) (by kernel_rfl) (by kernel_rfl) (fun _ _ _ h => h) (by kernel_rfl) hS0 ?hy17 ?_
        case hy17 => (intro W hW; clear hW; go_simp; try rfl)
        simp only [Act.put, List.setIfInBounds_toArray, List.set_cons_zero, List.set_cons_succ]
        refine takeInH 4 18 ?v18 rfl rfl (by kernel_rfl) (by kernel_rfl) (by kernel_rfl) (fun _ _ _ h => h) (by kernel_rfl) hS0 ?hy18 ?_
        case hy18 => (intro W hW; have e0 := bcell hW c0; have e1 := bcell hW c1; clear hW; go_simp; try rfl)
        simp only [Act.put, List.setIfInBounds_toArray, List.set_cons_zero, List.set_cons_succ]
        refine takeInH 5 19 ?v19 rfl rfl (by kernel_rfl) (by kernel_rfl) (by kernel_rfl) (fun _ _ _ h => h) (by kernel_rfl) hS0 ?hy19 ?_
        case hy19 => (intro W hW; clear hW; go_simp; try rfl)
        simp only [Act.put, List.setIfInBounds_toArray, List.set_cons_zero, List.set_cons_succ]
        refine takeInH 6 20 ?v20 rfl rfl (by kernel_rfl) (by kernel_rfl) (by kernel_rfl) (fun _ _ _ h => h) (by kernel_rfl) hS0 ?hy20 ?_
        case hy20 => (intro W hW; clear hW; go_simp; try rfl)
        simp only [Act.put, List.setIfInBounds_toArray, List.set_cons_zero, List.set_cons_succ]
        refine takeInH 7 21 ?v21 rfl rfl (by kernel_rfl) (by kernel_rfl) (by kernel_rfl) (fun _ _ _ h => h) (by kernel_rfl) hS0 ?hy21 ?_
        case hy21 => (intro W hW; clear hW; go_simp; try rfl)
        simp only [Act.put, List.setIfInBounds_toArray, List.set_cons_zero, List.set_cons_succ]
        refine takeInH 8 22 ?v22 rfl rfl (by kernel_rfl) (by kernel_rfl) (by kernel_rfl) (fun _ _ _ h => h) (by kernel_rfl) hS0 ?hy22 ?_
        case hy22 => (intro W hW; clear hW; go_simp; try rfl)
        simp only [Act.put, List.setIfInBounds_toArray, List.set_cons_zero, List.set_cons_succ]
        refine takeInH 9 23 ?v23 rfl rfl (by kernel_rfl) (by kernel_rfl) (by kernel_rfl) (fun _ _ _ h => h) (by kernel_rfl) hS0 ?hy23 ?_
        case hy23 => (intro W hW; clear hW; go_simp; try rfl)
        simp only [Act.put, List.setIfInBounds_toArray, List.set_cons_zero, List.set_cons_succ]
        refine takeInH 10 24 ?v24 rfl rfl (by kernel_rfl) (by kernel_rfl) (by kernel_rfl) (fun _ _ _ h => h) (by kernel_rfl) hS0 ?hy24 ?_
        case hy24 => (intro W hW; have e0 := bcell hW c0; have e1 := bcell hW c1; clear hW; go_simp; try rfl)
        simp only [Act.put, List.setIfInBounds_toArray, List.set_cons_zero, List.set_cons_succ]
        refine wpAnyH_ready (rs := [11]) (by kernel_rfl) (by simp) ?_
        refine AllReadyH.cons rfl (fun K hK => ?_) AllReadyH.nil
        go_simp
        refine (get_refZ pa na ca c r _ (HP.out.below (bel_next HB.out hS0))).mono ?_
        rintro e w' ⟨rfl, hw⟩
        replace hw := hw.symm
        subst hw
        refine hK.out _ _ ?hs25 (fun hS1 => ?_)
        case hs25 => exact hS0
        clear hK K
        try simp only [Act.put, List.setIfInBounds_toArray, List.set_cons_zero, List.set_cons_succ]
        refine takeInH 12 26 ?v26 rfl rfl (by kernel_rfl) (by kernel_rfl) (by kernel_rfl) (fun _ _ _ h => h) (by kernel_rfl) hS1 ?hy26 ?_
        case hy26 => (intro W hW; clear hW; go_simp; try rfl)
        simp only [Act.put, List.setIfInBounds_toArray, List.set_cons_zero, List.set_cons_succ]
        refine wpAnyH_done (by kernel_rfl) ?_ _
        generalize getZ c r = gz at *
        go_wp2
        go_roundw
        case rel => exact ⟨k + 1, by omega, by go_num, (show Hid _ by have := HO.out.below hS1; rwa [← HF2.out] at this), (show Hid _ from bel_next HB.out hS1)⟩
        case measure => simp [intOf]; omega
    · obtain rfl : k = n := by omega
      have HE : Hid (OwnD w.heap.size wr u5 (leftD l c)) := by have := HO.out; rwa [← HLEN.out, List.take_length] at this
      clear HO
      go_wp2
      go_ret
      exact ⟨_, rfl, HE.out, HB.out⟩
/-- What a key's entry is told as. -/
def OutN (w : World) (v : Value) (t : ByteArray) (l : List Dot) : Prop := ∃ (p : Option Addr) (n c : Nat) (pd : Option Addr) (nd cd : Nat), v = .agg #[.string t, .slice p n c, .slice pd nd cd] ∧ DS w p n l ∧ CP p n c
theorem get_yes {s : List En} {k : Nat} {x : En} {t : ByteArray} (hb : ∀ y ∈ s.take k, y.1 ≠ t) (hx : s[k]? = some x) (he : x.1 = t) : getS s t = x.2.1 := by
  have e : s = s.take k ++ x :: s.drop (k + 1) := by
    have hk := (List.getElem?_eq_some_iff.1 hx).1
    conv => lhs; rw [← List.take_append_drop k s]
    rw [List.drop_eq_getElem_cons hk, (List.getElem?_eq_some_iff.1 hx).2]
  have q : ∀ (u v : List En), (∀ y ∈ u, y.1 ≠ t) → getS (u ++ v) t = getS v t := by
    intro u v
    induction u with
    | nil => intro _; rfl
    | cons a r ih =>
      intro h
      rw [List.cons_append, getS, if_neg (h a List.mem_cons_self)]
      exact ih (fun y hy => h y (List.mem_cons_of_mem _ hy))
  rw [e, q _ _ hb, getS, if_pos he]
set_option maxHeartbeats 2000000 in
theorem GetS_ref (a : Option Addr) (n cap : Nat) (s : List En) (t : ByteArray) (w : World) (hA : NSS w a n s) : Calls Try.prog 24 #[.slice a n cap, .string t] w fun e w' => ∃ v, e = .returned v ∧ OutN w' v t (getS s t) ∧ Below w.heap.size w w' := by
  have HV := hide hA
  have HLEN := hide hA.len
  have hmx := hA.max
  unfold maxLen at hmx
  clear hA
  have HX0 := hide (BX.new w _ rfl #[.string ⟨#[]⟩, .slice none 0 0, .slice none 0 0] 48)
  have HB0 := hide (bel1 w (.cells #[.string ⟨#[]⟩, .slice none 0 0, .slice none 0 0] 48))
  go_enter Try.func24, Try.ntmps24
  go_wp2
  go_loopw [5] (fun i wr => ∃ k : Nat, k ≤ n ∧ i = .int .i64 k ∧ Hid (∀ y ∈ s.take k, y.1 ≠ t) ∧ Hid (BX wr w.heap.size #[.string ⟨#[]⟩, .slice none 0 0, .slice none 0 0] 48) ∧ Hid (Below w.heap.size w wr)) (fun i _ => n - (intOf i).toNat)
  case atStart => exact ⟨0, by omega, rfl, (fun y hy => by simp at hy), HX0, HB0⟩
  case round =>
    clear HX0 HB0
    obtain ⟨k0, hk, rfl, HF, HX, HB⟩ := hrel
    by_cases hlt : k0 < n
    · obtain ⟨b, off, rfl⟩ := HV.out.addr (by omega)
      obtain ⟨k, pl, nl, cl, pd, nd, cd, ll, mm, hx, c0, c1, c2, h1, h2, _, _⟩ := (HV.out.below HB.out).at k0 hlt
      have hk0 : (0 : Int) ≤ (k0 : Int) := by omega
      have hk1 : (k0 : Int) < (n : Int) := by omega
      have hq := eqK k t
      by_cases he : k = t
      · rw [decide_eq_true he] at hq
        have HG := hide (get_yes HF.out hx he)
        have HE := hide he
        have q0 := HX.out.cell 0 _ rfl
        have q1 := HX.out.cell 1 _ rfl
        have q2 := HX.out.cell 2 _ rfl
        have f0 := HX.out.free 0
        have f1 := HX.out.free 1
        have f2 := HX.out.free 2
        have HL := hide h1
        have HC := hide h2
        obtain ⟨hp1, _, hp2, _⟩ := HX.out.put3 (.string k) (.slice pl nl cl) (.slice pd nd cd)
        have HP1 := hide hp1
        have HP2 := hide (hp2 _ _ HB.out (Nat.le_refl _))
        have HFAR := hide (HV.out.below HB.out)
        have HL2 : Hid (DS (((wr.setCell ⟨w.heap.size, 0, none⟩ (.string k)).setCell ⟨w.heap.size, 1, none⟩ (.slice pl nl cl)).setCell ⟨w.heap.size, 2, none⟩ (.slice pd nd cd)) pl nl ll) := by
          obtain ⟨k', pl', nl', cl', pd', nd', cd', ll', mm', hx', e0, e1, e2, g1, _, _, _⟩ := HV.out.at k0 hlt
          have e1' := bcell HB.out e1
          rw [c1] at e1'
          cases e1'
          rw [hx] at hx'
          cases hx'
          exact g1.below HP2.out
        clear hx he h1 h2 hp1 hp2 HFAR
        go_wp2
        refine bodyPost_ret (results_cell_row rfl _ _ _ _ _ _ _ rfl HP1.out Try.underlying48 rfl (by kernel_rfl)) rfl ?_
        exact ⟨_, rfl, ⟨pl, nl, cl, _, _, _, by rw [HE.out], by rw [HG.out]; exact HL2.out, HC.out⟩, HP2.out⟩
      · rw [decide_eq_false he] at hq
        have HF2 : Hid (∀ y ∈ s.take (k0 + 1), y.1 ≠ t) := by
          intro y hy
          rw [take_snocL hx] at hy
          rcases List.mem_append.1 hy with q | q
          · exact HF.out y q
          · simp at q; subst q; exact he
        clear hx he h1 h2
        go_wp2
        go_roundw
        case rel => exact ⟨k0 + 1, by omega, by go_num, HF2, HX, HB⟩
        case measure => simp [intOf]; omega
    · obtain rfl : k0 = n := by omega
      have HG : Hid (getS s t = []) := getS_not (by have := HF.out; rwa [← HLEN.out, List.take_length] at this)
      have q0 := HX.out.cell 0 _ rfl
      have q1 := HX.out.cell 1 _ rfl
      have q2 := HX.out.cell 2 _ rfl
      have f0 := HX.out.free 0
      have f1 := HX.out.free 1
      have f2 := HX.out.free 2
      obtain ⟨hp1, _, hp2, _⟩ := HX.out.put3 (.string t) (.slice none 0 0) (.slice none 0 0)
      have HP1 := hide hp1
      have HP2 := hide (hp2 _ _ HB.out (Nat.le_refl _))
      clear HF hp1 hp2
      go_wp2
      refine bodyPost_ret (results_cell_row rfl _ _ _ _ _ _ _ rfl HP1.out Try.underlying48 rfl (by kernel_rfl)) rfl ?_
      exact ⟨_, rfl, ⟨none, 0, 0, none, 0, 0, rfl, by rw [HG.out]; exact DS.nil _ _, Nat.le_refl _, by decide, fun _ => rfl⟩, HP2.out⟩
end Go.Proofs.Ytiodlpoeifmldaa
