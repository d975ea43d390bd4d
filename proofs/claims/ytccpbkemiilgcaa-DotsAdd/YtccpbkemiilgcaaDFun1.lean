/- A drawn region's operations under a held condition; what 'May', 'Less', 'compare' do, the program's and the document's. -/
import Derived.Test.YtccpbkemiilgcaaDMem
import Derived.Deep.RegionHeld3
import Derived.Sort.Grow
import Derived.Deep.Draws
namespace Go.Proofs.Ytccpbkemiilgcaa
open Go.RowKit
set_option linter.unusedVariables false

theorem takeInH {P : Program} {md : Region.Mode} {ops : Array Oper} {Q : Exit → Act → World → Prop} {S : World → Prop} (i d : Nat) (v : Value) {oi : Oper} {fuel : Nat} {listed : Array Bool} {a : Act} {w : World} (hi : ops[i]? = some oi) (hd : oi.dst = some d)
    (hs : Region.noSelect ops = true) (hf : Region.free md ops listed i = true) (hr : (Region.ready md ops listed).contains i = true)
    (hQ : ∀ c a w, Q (.panic c) (a.put oi.dst v) w → Q (.panic c) a w) (hw : Region.wanted oi (yielded ops a.tmps) = true) (hS : S w) (hy : ∀ w, S w → (execOp a.eval oi).run P w = .ok (.value v) w)
    (h : wpAnyH P md ops Q S fuel (listed.setIfInBounds i true) (a.put (some d) v) w) : wpAnyH P md ops Q S (fuel + 1) listed a w :=
  wpAnyH_take hi hs hf hr hQ (Or.inl ⟨hw, hy⟩) hS (by rw [hd]; exact h)
theorem takeNoH {P : Program} {md : Region.Mode} {ops : Array Oper} {Q : Exit → Act → World → Prop} {S : World → Prop} (i d : Nat) {oi : Oper} {fuel : Nat} {listed : Array Bool} {a : Act} {w : World} (hi : ops[i]? = some oi) (hd : oi.dst = some d)
    (hs : Region.noSelect ops = true) (hf : Region.free md ops listed i = true) (hr : (Region.ready md ops listed).contains i = true)
    (hQ : ∀ c a w, Q (.panic c) (a.put oi.dst undef) w → Q (.panic c) a w) (hw : Region.wanted oi (yielded ops a.tmps) = false) (hS : S w)
    (h : wpAnyH P md ops Q S fuel (listed.setIfInBounds i true) (a.put (some d) undef) w) : wpAnyH P md ops Q S (fuel + 1) listed a w :=
  wpAnyH_take hi hs hf hr hQ (Or.inr ⟨hw, rfl⟩) hS (by rw [hd]; exact h)

/-- Draws and new blocks alone. -/
def Gr (u W : World) : Prop := ∃ (q : Nat) (os : Array Obj), W = Sort.grow (u.drewN q) os
theorem Gr.refl (u : World) : Gr u u := ⟨0, #[], by rw [Sort.grow_empty]; rfl⟩
theorem Gr.drew {u W : World} (h : Gr u W) : Gr u W.drew := by
  obtain ⟨q, os, rfl⟩ := h
  exact ⟨q + 1, os, by rw [Sort.drew_grow]; rfl⟩
theorem Gr.alloc {u W : World} (h : Gr u W) (o : Obj) : Gr u (W.alloc o) := by
  obtain ⟨q, os, rfl⟩ := h
  exact ⟨q, os ++ #[o], by rw [Sort.alloc_eq_grow, Sort.grow_grow]⟩
theorem Gr.trans {a b c : World} (h : Gr a b) (k : Gr b c) : Gr a c := by
  obtain ⟨q, os, rfl⟩ := h
  obtain ⟨q', os', rfl⟩ := k
  refine ⟨q + q', os ++ os', ?_⟩
  rw [← Sort.grow_grow, ← World.drewN_drewN]
  rfl
theorem Gr.bel {u W : World} (h : Gr u W) : Below u.heap.size u W := by
  obtain ⟨q, os, rfl⟩ := h
  exact ⟨rfl, rfl, rfl, by simp [World.drewN], fun k hk => Sort.heap_grow_old (u.drewN q) os hk⟩

theorem cell_new (w : World) (C : Array Value) (t : TypeId) (g : Nat) (hg : g = w.heap.size) (i : Nat) (v : Value) (h : C[i]? = some v) : (w.alloc (.cells C t)).cell? ⟨g, i, none⟩ = some v := by
  subst hg; rw [World.cell?_alloc_mark]; exact h
theorem cell_old {w : World} (o : Obj) {p : Addr} {v : Value} (h : w.cell? p = some v) : (w.alloc o).cell? p = some v := bcell (bel1 w o) h
/-- A dot's box. -/
abbrev bxD (r s : Int) : Obj := .cells #[.int .i64 r, .int .i64 s] 28

set_option maxHeartbeats 400000 in
theorem May_any (r s : Int) (w : World) : Calls Try.prog 10 #[.agg #[.int .i64 r, .int .i64 s]] w fun e w' => e = .returned (.bool (mayD (r, s))) ∧ Gr w w' := by
  by_cases h1 : r ≥ 1
  · by_cases h2 : r ≤ 5
    · by_cases h3 : s ≥ 1
      · by_cases h4 : s ≤ 1048576
        · go_enter Try.func10, Try.ntmps10
          go_wp2
          go_ret
          exact ⟨retB (mayTrue h1 h2 h3 h4), (Gr.refl w).alloc _⟩
        · go_enter Try.func10, Try.ntmps10
          go_wp2
          go_ret
          exact ⟨retB (mayFalse (by omega)), (Gr.refl w).alloc _⟩
      · go_enter Try.func10, Try.ntmps10
        go_wp2
        go_ret
        exact ⟨retB (mayFalse (by omega)), (Gr.refl w).alloc _⟩
    · go_enter Try.func10, Try.ntmps10
      go_wp2
      go_ret
      exact ⟨retB (mayFalse (by omega)), (Gr.refl w).alloc _⟩
  · go_enter Try.func10, Try.ntmps10
    go_wp2
    go_ret
    exact ⟨retB (mayFalse (by omega)), (Gr.refl w).alloc _⟩

set_option maxHeartbeats 400000 in
theorem MayR_any (r s : Int) (w : World) : Calls Try.prog 11 #[.agg #[.int .i64 r, .int .i64 s]] w fun e w' => e = .returned (.bool (mayD (r, s))) ∧ Gr w w' := by
  by_cases h1 : r ≥ 1
  · by_cases h2 : r ≤ 5
    · by_cases h3 : s ≥ 1
      · by_cases h4 : s ≤ 1048576
        · go_enter Try.func11, Try.ntmps11
          go_wp2
          go_ret
          exact ⟨retB (mayTrue h1 h2 h3 h4), (Gr.refl w).alloc _⟩
        · go_enter Try.func11, Try.ntmps11
          go_wp2
          go_ret
          exact ⟨retB (mayFalse (by omega)), (Gr.refl w).alloc _⟩
      · go_enter Try.func11, Try.ntmps11
        go_wp2
        go_ret
        exact ⟨retB (mayFalse (by omega)), (Gr.refl w).alloc _⟩
    · go_enter Try.func11, Try.ntmps11
      go_wp2
      go_ret
      exact ⟨retB (mayFalse (by omega)), (Gr.refl w).alloc _⟩
  · go_enter Try.func11, Try.ntmps11
    go_wp2
    go_ret
    exact ⟨retB (mayFalse (by omega)), (Gr.refl w).alloc _⟩

set_option maxHeartbeats 400000 in
theorem LessR_any (r s r' s' : Int) (w : World) : Calls Try.prog 29 #[.agg #[.int .i64 r, .int .i64 s], .agg #[.int .i64 r', .int .i64 s']] w fun e w' => e = .returned (.bool (lessD (r, s) (r', s'))) ∧ Gr w w' := by
  by_cases h1 : r = r'
  · subst h1
    have HE : Hid (decide (s < s') = lessD (r, s) (r, s')) := by unfold Hid lessD; simp
    go_enter Try.func29, Try.ntmps29
    go_wp2
    go_ret
    exact ⟨retB HE.out, ((Gr.refl w).alloc _).alloc _⟩
  · have HE : Hid (decide (r < r') = lessD (r, s) (r', s')) := by unfold Hid lessD; simp [h1]
    go_enter Try.func29, Try.ntmps29
    go_wp2
    go_ret
    exact ⟨retB HE.out, ((Gr.refl w).alloc _).alloc _⟩

/-- 'cmp.Compare' of two numbers. -/
def cmpI (x y : Int) : Int := if x < y then -1 else if x > y then 1 else 0
theorem nan_any (x : Int) (w : World) : Calls Try.prog 77 #[.int .i64 x] w fun e w' => e = .returned (.bool false) ∧ w' = w := by
  go_enter Try.func77, Try.ntmps77
  go_wp2
  go_ret
  exact ⟨retB (by simp), rfl⟩
theorem cmpI_any (x y : Int) (w : World) : Calls Try.prog 58 #[.int .i64 x, .int .i64 y] w fun e w' => e = .returned (.int .i64 (cmpI x y)) ∧ w' = w := by
  by_cases h1 : x < y
  · have HE : Hid (-1 = cmpI x y) := by unfold Hid cmpI; rw [if_pos h1]
    go_enter Try.func58, Try.ntmps58
    go_wp2_with (go_at_call 77; refine (nan_any _ _).mono ?_; rintro e w' ⟨rfl, rfl⟩)
    go_ret
    exact ⟨ret_int HE.out, rfl⟩
  · by_cases h2 : x > y
    · have HE : Hid (1 = cmpI x y) := by unfold Hid cmpI; rw [if_neg h1, if_pos h2]
      go_enter Try.func58, Try.ntmps58
      go_wp2_with (go_at_call 77; refine (nan_any _ _).mono ?_; rintro e w' ⟨rfl, rfl⟩)
      go_ret
      exact ⟨ret_int HE.out, rfl⟩
    · have HE : Hid (0 = cmpI x y) := by unfold Hid cmpI; rw [if_neg h1, if_neg h2]
      go_enter Try.func58, Try.ntmps58
      go_wp2_with (go_at_call 77; refine (nan_any _ _).mono ?_; rintro e w' ⟨rfl, rfl⟩)
      go_ret
      exact ⟨ret_int HE.out, rfl⟩
def orI (x y : Int) : Int := if x = 0 then y else x
set_option maxHeartbeats 400000 in
theorem or_any (w : World) (g : Nat) (x y : Int) (c0 : w.cell? ⟨g, 0, none⟩ = some (.int .i64 x)) (c1 : w.cell? ⟨g, 1, none⟩ = some (.int .i64 y)) :
    Calls Try.prog 57 #[.slice (some ⟨g, 0, none⟩) 2 2] w fun e w' => e = .returned (.int .i64 (orI x y)) ∧ w' = w := by
  by_cases h1 : x = 0
  · by_cases h2 : y = 0
    · have HE : Hid (0 = orI x y) := by unfold Hid orI; rw [if_pos h1, h2]
      go_enter Try.func57, Try.ntmps57
      go_wp2
      refine wp_loop_rounds 3 ?_
      rw [rounds_succ]
      go_wp2
      rw [rounds_succ]
      go_wp2
      rw [rounds_succ]
      go_wp2
      go_ret
      exact ⟨ret_int HE.out, rfl⟩
    · have HE : Hid (y = orI x y) := by unfold Hid orI; rw [if_pos h1]
      go_enter Try.func57, Try.ntmps57
      go_wp2
      refine wp_loop_rounds 3 ?_
      rw [rounds_succ]
      go_wp2
      rw [rounds_succ]
      go_wp2
      go_ret
      exact ⟨ret_int HE.out, rfl⟩
  · have HE : Hid (x = orI x y) := by unfold Hid orI; rw [if_neg h1]
    go_enter Try.func57, Try.ntmps57
    go_wp2
    refine wp_loop_rounds 3 ?_
    rw [rounds_succ]
    go_wp2
    go_ret
    exact ⟨ret_int HE.out, rfl⟩
theorem orI_is (a b : Dot) : orI (cmpI a.1 b.1) (cmpI a.2 b.2) = cmpD a b := by
  obtain ⟨a1, a2⟩ := a
  obtain ⟨b1, b2⟩ := b
  unfold orI cmpI cmpD lessD
  simp only [decide_eq_true_iff]
  split <;> split <;> (try split) <;> (try split) <;> (try split) <;> omega

set_option maxHeartbeats 1000000 in
theorem compare_any (x y : Dot) (w : World) : Calls Try.prog 39 #[.agg #[.int .i64 x.1, .int .i64 x.2], .agg #[.int .i64 y.1, .int .i64 y.2]] w fun e w' => e = .returned (.int .i64 (cmpD x y)) ∧ Gr w w' := by
  have HE := hide (orI_is x y)
  obtain ⟨r, s⟩ := x
  obtain ⟨r', s'⟩ := y
  have HU := hide (((Gr.refl w).alloc (bxD r s)).alloc (bxD r' s'))
  go_enter Try.func39, Try.ntmps39
  go_wp2
  have c0 : ((w.alloc (bxD r s)).alloc (bxD r' s')).cell? ⟨w.heap.size, 0, none⟩ = some (.int .i64 r) := cell_old _ (cell_new w _ _ _ rfl 0 _ rfl)
  have c1 : ((w.alloc (bxD r s)).alloc (bxD r' s')).cell? ⟨w.heap.size, 1, none⟩ = some (.int .i64 s) := cell_old _ (cell_new w _ _ _ rfl 1 _ rfl)
  have c2 : ((w.alloc (bxD r s)).alloc (bxD r' s')).cell? ⟨w.heap.size + 1, 0, none⟩ = some (.int .i64 r') := cell_new _ _ _ _ (by simp) 0 _ rfl
  have c3 : ((w.alloc (bxD r s)).alloc (bxD r' s')).cell? ⟨w.heap.size + 1, 1, none⟩ = some (.int .i64 s') := cell_new _ _ _ _ (by simp) 1 _ rfl
  generalize ((w.alloc (bxD r s)).alloc (bxD r' s')) = u at *
  refine wp_region_held_drew (S := fun W => Gr u W) (by kernel_rfl) ((Gr.refl u).drew) (fun hS0 => ?_)
  refine takeInH 0 5 ?v1 rfl rfl (by kernel_rfl) (by kernel_rfl) (by kernel_rfl) (fun _ _ _ h => h) (by kernel_rfl) hS0 ?hy1 ?_
  case hy1 => (intro W hW; clear hW; go_simp; try rfl)
  simp only [Act.put, List.setIfInBounds_toArray, List.set_cons_zero, List.set_cons_succ]
  refine takeInH 1 6 ?v2 rfl rfl (by kernel_rfl) (by kernel_rfl) (by kernel_rfl) (fun _ _ _ h => h) (by kernel_rfl) hS0 ?hy2 ?_
  case hy2 => (intro W hW; have e0 := bcell hW.bel c0; have e1 := bcell hW.bel c1; have e2 := bcell hW.bel c2; have e3 := bcell hW.bel c3; clear hW; go_simp; try rfl)
  simp only [Act.put, List.setIfInBounds_toArray, List.set_cons_zero, List.set_cons_succ]
  refine takeInH 2 7 ?v3 rfl rfl (by kernel_rfl) (by kernel_rfl) (by kernel_rfl) (fun _ _ _ h => h) (by kernel_rfl) hS0 ?hy3 ?_
  case hy3 => (intro W hW; clear hW; go_simp; try rfl)
  simp only [Act.put, List.setIfInBounds_toArray, List.set_cons_zero, List.set_cons_succ]
  refine takeInH 3 8 ?v4 rfl rfl (by kernel_rfl) (by kernel_rfl) (by kernel_rfl) (fun _ _ _ h => h) (by kernel_rfl) hS0 ?hy4 ?_
  case hy4 => (intro W hW; have e0 := bcell hW.bel c0; have e1 := bcell hW.bel c1; have e2 := bcell hW.bel c2; have e3 := bcell hW.bel c3; clear hW; go_simp; try rfl)
  simp only [Act.put, List.setIfInBounds_toArray, List.set_cons_zero, List.set_cons_succ]
  refine takeInH 5 10 ?v5 rfl rfl (by kernel_rfl) (by kernel_rfl) (by kernel_rfl) (fun _ _ _ h => h) (by kernel_rfl) hS0 ?hy5 ?_
  case hy5 => (intro W hW; clear hW; go_simp; try rfl)
  simp only [Act.put, List.setIfInBounds_toArray, List.set_cons_zero, List.set_cons_succ]
  refine takeInH 6 11 ?v6 rfl rfl (by kernel_rfl) (by kernel_rfl) (by kernel_rfl) (fun _ _ _ h => h) (by kernel_rfl) hS0 ?hy6 ?_
  case hy6 => (intro W hW; have e0 := bcell hW.bel c0; have e1 := bcell hW.bel c1; have e2 := bcell hW.bel c2; have e3 := bcell hW.bel c3; clear hW; go_simp; try rfl)
  simp only [Act.put, List.setIfInBounds_toArray, List.set_cons_zero, List.set_cons_succ]
  refine takeInH 7 12 ?v7 rfl rfl (by kernel_rfl) (by kernel_rfl) (by kernel_rfl) (fun _ _ _ h => h) (by kernel_rfl) hS0 ?hy7 ?_
  case hy7 => (intro W hW; clear hW; go_simp; try rfl)
  simp only [Act.put, List.setIfInBounds_toArray, List.set_cons_zero, List.set_cons_succ]
  refine takeInH 8 13 ?v8 rfl rfl (by kernel_rfl) (by kernel_rfl) (by kernel_rfl) (fun _ _ _ h => h) (by kernel_rfl) hS0 ?hy8 ?_
  case hy8 => (intro W hW; have e0 := bcell hW.bel c0; have e1 := bcell hW.bel c1; have e2 := bcell hW.bel c2; have e3 := bcell hW.bel c3; clear hW; go_simp; try rfl)
  simp only [Act.put, List.setIfInBounds_toArray, List.set_cons_zero, List.set_cons_succ]
  refine wpAnyH_ready (rs := [4]) (by kernel_rfl) (by simp) ?_
  refine AllReadyH.cons rfl (fun K hK => ?_) AllReadyH.nil
  go_simp
  refine (cmpI_any _ _ _).mono ?_
  rintro e w' ⟨rfl, hw⟩
  subst hw
  try go_wp2_with fail
  refine hK.out _ _ ?hs9 (fun hS1 => ?_)
  case hs9 => exact hS0
  clear hK K
  try simp only [Act.put, List.setIfInBounds_toArray, List.set_cons_zero, List.set_cons_succ]
  refine wpAnyH_ready (rs := [9]) (by kernel_rfl) (by simp) ?_
  refine AllReadyH.cons rfl (fun K hK => ?_) AllReadyH.nil
  go_simp
  refine (cmpI_any _ _ _).mono ?_
  rintro e w' ⟨rfl, hw⟩
  subst hw
  try go_wp2_with fail
  refine hK.out _ _ ?hs10 (fun hS2 => ?_)
  case hs10 => exact hS1
  clear hK K
  try simp only [Act.put, List.setIfInBounds_toArray, List.set_cons_zero, List.set_cons_succ]
  refine wpAnyH_ready (rs := [10]) (by kernel_rfl) (by simp) ?_
  refine AllReadyH.cons rfl (fun K hK => ?_) AllReadyH.nil
  go_simp
  refine hK.out _ _ ?hs11 (fun hS3 => ?_)
  case hs11 => exact hS2.alloc _
  clear hK K
  try simp only [Act.put, List.setIfInBounds_toArray, List.set_cons_zero, List.set_cons_succ]
  refine wpAnyH_ready (rs := [11]) (by kernel_rfl) (by simp) ?_
  refine AllReadyH.cons rfl (fun K hK => ?_) AllReadyH.nil
  go_simp
  refine Calls.mono (or_any _ _ (cmpI r r') (cmpI s s') ?_ ?_) ?_
  · exact cell_new _ _ _ _ rfl 0 _ rfl
  · exact cell_new _ _ _ _ rfl 1 _ rfl
  rintro e w' ⟨rfl, hw⟩
  subst hw
  try go_wp2_with fail
  refine hK.out _ _ ?hs12 (fun hS4 => ?_)
  case hs12 => exact hS3
  clear hK K
  try simp only [Act.put, List.setIfInBounds_toArray, List.set_cons_zero, List.set_cons_succ]
  refine takeInH 12 4 ?v13 rfl rfl (by kernel_rfl) (by kernel_rfl) (by kernel_rfl) (fun _ _ _ h => h) (by kernel_rfl) hS4 ?hy13 ?_
  case hy13 => (intro W hW; clear hW; go_simp; try rfl)
  simp only [Act.put, List.setIfInBounds_toArray, List.set_cons_zero, List.set_cons_succ]
  refine wpAnyH_done (by kernel_rfl) ?_ _
  go_wp2
  go_ret
  exact ⟨ret_int HE.out, HU.out.trans (by assumption)⟩

set_option maxHeartbeats 400000 in
theorem Less_any (x y : Dot) (w : World) : Calls Try.prog 28 #[.agg #[.int .i64 x.1, .int .i64 x.2], .agg #[.int .i64 y.1, .int .i64 y.2]] w fun e w' => e = .returned (.bool (lessD x y)) ∧ Gr w w' := by
  have HC := hide (fun W => compare_any x y W)
  have HE : Hid (decide (cmpD x y < 0) = lessD x y) := by unfold Hid; rw [Bool.eq_iff_iff, decide_eq_true_iff]; exact cmpD_lt
  obtain ⟨r, s⟩ := x
  obtain ⟨r', s'⟩ := y
  have HU := hide (((Gr.refl w).alloc (bxD r s)).alloc (bxD r' s'))
  generalize cmpD (r, s) (r', s') = c at HC HE
  go_enter Try.func28, Try.ntmps28
  go_wp2_with (go_at_call 39; refine (HC.out _).mono ?_; rintro e w' ⟨rfl, hg⟩)
  go_ret
  exact ⟨retB HE.out, HU.out.trans hg⟩
end Go.Proofs.Ytccpbkemiilgcaa
