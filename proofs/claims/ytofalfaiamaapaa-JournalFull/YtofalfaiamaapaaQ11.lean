/- What the statements of layer 7 do with a journal. -/
import Derived.Test.YtofalfaiamaapaaQ9
import Derived.Test.YtofalfaiamaapaaJ5
namespace Go.Proofs.Ytofalfaiamaapaa
open Go.RowKit
set_option linter.unusedVariables false
abbrev WC (g jb : Nat) (vb vm : Value) (t : Int) : Array Value := #[.pointer (some ⟨g, 0, none⟩), .pointer (some ⟨jb, 0, none⟩), vb, vm, .int .i64 t]
/-- The blocks of a journal, its disk, and the statements' own. -/
def XW (g : Nat) (va vb : Value) (jb gw : Nat) (b : Nat) : Prop := XJ g va vb jb b ∨ b = gw
theorem BX.diff {w : World} {a b : Nat} {C D : Array Value} {t u : TypeId} (h : BX w a C t) (k : BX w b D u) (hne : t ≠ u) : a ≠ b := by
  rintro rfl
  have e := h.symm.trans k
  injection e with e
  injection e with _ e
  exact hne e
/-- What stands while an act is done: the disk, the journal, the statements' own block and the act's. -/
def WQ (N g jb gw c3 : Nat) (w0 w : World) (va0 vb0 va vb : Value) (d : Dk) (s t : Int) (C D : Array Value) : Prop :=
  PD N g w va vb d ∧ BJ w jb g s t false ∧ BX w gw C 49 ∧ BX w c3 D 52 ∧ Sp (XW g va0 vb0 jb gw) (XW g va vb jb gw) w0 w ∧ Below N w0 w
theorem WQ.act {N g jb gw c3 : Nat} {w0 w w' : World} {va0 vb0 va vb : Value} {d : Dk} {s t : Int} {C D : Array Value} (h : WQ N g jb gw c3 w0 w va0 vb0 va vb d s t C D) {r : Int × Dk × Int × Int} {e : Ending} (k : JPost N g jb va vb w r e w') : ∃ va' vb', WQ N g jb gw c3 w0 w' va0 vb0 va' vb' r.2.1 r.2.2.1 r.2.2.2 C D ∧ e = .returned (.int .i64 r.1) ∧ Sp (XJ g va vb jb) (XJ g va' vb' jb) w w' := by
  obtain ⟨h1, h2, h3, h4, h5, h6⟩ := h
  obtain ⟨va', vb', rfl, k1, k2, k3, k4⟩ := k
  refine ⟨va', vb', ⟨k1, k2, h3.sp k3 ?_, h4.sp k3 ?_, h5.trans (k3.add fun b => b = gw), h6.trans k4⟩, rfl, k3⟩
  · rintro (q | q)
    · exact h1.notx h3 (by decide) (by decide) q
    · exact h2.diff h3 (by decide) q.symm
  · rintro (q | q)
    · exact h1.notx h4 (by decide) (by decide) q
    · exact h2.diff h4 (by decide) q.symm
theorem WQ.below {N g jb gw c3 : Nat} {w0 w w' : World} {va0 vb0 va vb : Value} {d : Dk} {s t : Int} {C D : Array Value} (h : WQ N g jb gw c3 w0 w va0 vb0 va vb d s t C D) (hb : Below w.heap.size w w') : WQ N g jb gw c3 w0 w' va0 vb0 va vb d s t C D :=
  ⟨h.1.below hb, h.2.1.below hb, h.2.2.1.below hb, h.2.2.2.1.below hb, h.2.2.2.2.1.trans (Sp.below hb), h.2.2.2.2.2.trans (hb.mono h.1.le)⟩
theorem WQ.setg {N g jb gw c3 : Nat} {w0 w : World} {va0 vb0 va vb : Value} {d : Dk} {s t : Int} {C D : Array Value} (h : WQ N g jb gw c3 w0 w va0 vb0 va vb d s t C D) (hN : N ≤ gw) (i : Nat) (v : Value) : WQ N g jb gw c3 w0 (w.setCell ⟨gw, i, none⟩ v) va0 vb0 va vb d s t (C.setIfInBounds i v) D := by
  obtain ⟨h1, h2, h3, h4, h5, h6⟩ := h
  exact ⟨h1.setc (h1.notx h3 (by decide) (by decide)) _ _, h2.other (h3.diff h2 (by decide)) _ _, h3.set i v, h4.other (h3.diff h4 (by decide)) _ _, h5.setOld (.inr rfl) _ _, h6.setCell (by simp only []; exact hN) _⟩
/-- What an act of the statements tells, and leaves. -/
def DP (N g jb gw : Nat) (va vb : Value) (w : World) (r : Int × Dk × Int × Int) (C : Array Value) (b : Bool) (e : Ending) (w' : World) : Prop := ∃ va' vb', e = .returned (.bool b) ∧ PD N g w' va' vb' r.2.1 ∧ BJ w' jb g r.2.2.1 r.2.2.2 false ∧ BX w' gw C 49 ∧ Sp (XW g va vb jb gw) (XW g va' vb' jb gw) w w' ∧ Below N w w'
theorem WQ.dp {N g jb gw c3 : Nat} {w0 w : World} {va0 vb0 va vb : Value} {d : Dk} {s t : Int} {C D : Array Value} (h : WQ N g jb gw c3 w0 w va0 vb0 va vb d s t C D) (x : Int) (b : Bool) : DP N g jb gw va0 vb0 w0 (x, d, s, t) C b (.returned (.bool b)) w := ⟨va, vb, rfl, h.1, h.2.1, h.2.2.1, h.2.2.2.2.1, h.2.2.2.2.2⟩
/-- Rows of the call's own are none of the journal's blocks, nor of the statements'. -/
theorem OwnW.spw {N M g jb gw c3 : Nat} {w0 w w' : World} {va0 vb0 va vb : Value} {d : Dk} {s t : Int} {C D : Array Value} {X' : Nat → Prop} (h : WQ N g jb gw c3 w0 w va0 vb0 va vb d s t C D) {V : Value} {xs : List Rw} (ho : OwnW M w V xs) (k : Sp (XJ g va vb jb) X' w w') : OwnW M w' V xs := by
  refine OwnR.sp ho k fun b hb hq => ?_
  rcases hq with (rfl | q | q) | rfl
  · exact ho.off h.1.1 (by decide) hb
  · exact own_apart (Own.rows.1 h.1.2.1) ho (by decide) b hb q
  · exact own_apart (Own.rows.1 h.1.2.2.1) ho (by decide) b hb q
  · exact ho.off h.2.1 (by decide) hb
theorem bit0 (x : Int) : (x == 0) = decide (x = 0) := by by_cases h : x = 0 <;> simp [h]
theorem WQ.drew {N g jb gw c3 : Nat} {w0 w : World} {va0 vb0 va vb : Value} {d : Dk} {s t : Int} {C D : Array Value} (h : WQ N g jb gw c3 w0 w va0 vb0 va vb d s t C D) : WQ N g jb gw c3 w0 w.drew va0 vb0 va vb d s t C D := h.below (Below.refl _ _).drew
theorem RC.drew {w : World} {a : Option Addr} {n : Nat} {l : List Rc} (h : RC w a n l) : RC w.drew a n l := h.bel (Below.refl _ _).drew
set_option maxHeartbeats 8000000 in
theorem do0_bad {N g jb gw : Nat} {va vb vb2 vm : Value} {d : Dk} {s t wt : Int} (p : Option Addr) (n c : Nat) (l : List Rc) (w : World) (h : PD N g w va vb d) (hs : d.stop = -1) (hj : BJ w jb g s t false) (hNj : N ≤ jb) (h01 : s = 0 ∨ s = 1) (ht0 : 0 ≤ t) (ht1 : t ≤ 1099511627776) (hg : BX w gw (WC g jb vb2 vm wt) 49) (hNg : N ≤ gw) {w0 : World} (hA0 : RC w0 p n l) (hw0 : Below w0.heap.size w0 w) (hN0 : N = w0.heap.size) (hC : CP p n c) (hbig : (bytesRs l).length ≤ 100000000) (hm : allMay l = false) :
    Calls Try.prog 18 #[.pointer (some ⟨gw, 0, none⟩), .agg #[.int .i64 0, .slice p n c]] w fun e w' => DP N g jb gw va vb w ((1, d, s, t)) (WC g jb vb2 vm wt) true e w' := by
  have hA := hA0.bel hw0
  have HN0 := hide hN0
  have HNG := hide hNg
  have HB0 := hide (bel1 w (.cells #[.int .i64 0, .slice p n c] 52))
  have Q0 : Hid (WQ N g jb gw w.heap.size w (w.alloc (.cells #[.int .i64 0, .slice p n c] 52)) va vb va vb d s t (WC g jb vb2 vm wt) #[.int .i64 0, .slice p n c]) := ⟨h.below HB0.out, hj.below HB0.out, hg.below HB0.out, BX.new w _ rfl _ _, Sp.below HB0.out, HB0.out.mono h.le⟩
  have R0 := hide (hA.bel HB0.out)
  have HM : Hid (l.all mayRc = allMay l) := rfl
  have HLN : Hid (l.length = n) := hA.len
  clear h hj hg hNg hA hN0
  go_enter Try.func18, Try.ntmps18
  go_wp2_with fail
  refine (mayRs_any p n c l _ R0.out).mono ?_
  rw [HM.out]
  rintro e u ⟨rfl, hb⟩
  replace Q0 := hide (Q0.out.below hb)
  replace R0 := hide (R0.out.bel hb)
  generalize w.alloc (.cells #[.int .i64 0, .slice p n c] 52) = wA at *
  have a0 := Q0.out.2.2.2.1.cell 0 _ rfl
  rw [hm]
  have HPJ : Hid (putJ d s t l = (1, d, s, t)) := by unfold Hid putJ; rw [if_pos hm]
  go_upto_region 4 with fail
  refine wp_region_held_drew (S := fun W => W.cell? ⟨gw, 1, none⟩ = some (.pointer (some ⟨jb, 0, none⟩)) ∧ W.cell? ⟨w.heap.size, 1, none⟩ = some (.slice p n c)) (by kernel_rfl) (⟨Q0.out.2.2.1.cell 1 _ rfl, Q0.out.2.2.2.1.cell 1 _ rfl⟩) (fun hS0 => ?_)
  refine takeInH 0 18 ?v1 rfl rfl (by kernel_rfl) (by kernel_rfl) (by kernel_rfl) (fun _ _ _ h => h) (by kernel_rfl) hS0 ?hy1 ?_
  case hy1 => (intro W hW; clear hW; go_simp; try rfl)
  simp only [Act.put, List.setIfInBounds_toArray, List.set_cons_zero, List.set_cons_succ]
  refine takeInH 1 19 ?v2 rfl rfl (by kernel_rfl) (by kernel_rfl) (by kernel_rfl) (fun _ _ _ h => h) (by kernel_rfl) hS0 ?hy2 ?_
  case hy2 => (intro W hW; clear hW; go_simp; try rfl)
  simp only [Act.put, List.setIfInBounds_toArray, List.set_cons_zero, List.set_cons_succ]
  refine takeInH 2 20 ?v3 rfl rfl (by kernel_rfl) (by kernel_rfl) (by kernel_rfl) (fun _ _ _ h => h) (by kernel_rfl) hS0 ?hy3 ?_
  case hy3 => (intro W hW; clear hW; go_simp; try rfl)
  simp only [Act.put, List.setIfInBounds_toArray, List.set_cons_zero, List.set_cons_succ]
  refine takeInH 3 21 ?v4 rfl rfl (by kernel_rfl) (by kernel_rfl) (by kernel_rfl) (fun _ _ _ h => h) (by kernel_rfl) hS0 ?hy4 ?_
  case hy4 => (intro W hW; have e0 := hW.1; have e1 := hW.2; clear hW; go_simp; try rfl)
  simp only [Act.put, List.setIfInBounds_toArray, List.set_cons_zero, List.set_cons_succ]
  refine takeInH 4 22 ?v5 rfl rfl (by kernel_rfl) (by kernel_rfl) (by kernel_rfl) (fun _ _ _ h => h) (by kernel_rfl) hS0 ?hy5 ?_
  case hy5 => (intro W hW; clear hW; go_simp; try rfl)
  simp only [Act.put, List.setIfInBounds_toArray, List.set_cons_zero, List.set_cons_succ]
  refine takeInH 5 23 ?v6 rfl rfl (by kernel_rfl) (by kernel_rfl) (by kernel_rfl) (fun _ _ _ h => h) (by kernel_rfl) hS0 ?hy6 ?_
  case hy6 => (intro W hW; have e0 := hW.1; have e1 := hW.2; clear hW; go_simp; try rfl)
  simp only [Act.put, List.setIfInBounds_toArray, List.set_cons_zero, List.set_cons_succ]
  refine wpAnyH_ready (rs := [6]) (by kernel_rfl) (by simp) ?_
  refine AllReadyH.cons rfl (fun K hK => ?_) AllReadyH.nil
  go_simp
  refine (Put_any p n c l _ Q0.out.drew.1 hs Q0.out.drew.2.1 hNj h01 ht0 ht1 R0.out.drew hC hbig).mono ?_
  intro e w5 hp
  obtain ⟨va5, vb5, q5, rfl, k5⟩ := Q0.out.drew.act hp
  have Q5 := hide q5
  have K5 := hide k5
  have B5 := hide hp
  clear hp q5 k5
  refine hK.out _ _ ?hs7 (fun hS1 => ?_)
  case hs7 => exact ⟨Q5.out.2.2.1.cell 1 _ rfl, Q5.out.2.2.2.1.cell 1 _ rfl⟩
  clear hK K
  try simp only [Act.put, List.setIfInBounds_toArray, List.set_cons_zero, List.set_cons_succ]
  refine takeInH 7 6 ?v8 rfl rfl (by kernel_rfl) (by kernel_rfl) (by kernel_rfl) (fun _ _ _ h => h) (by kernel_rfl) hS1 ?hy8 ?_
  case hy8 => (intro W hW; clear hW; go_simp; try rfl)
  simp only [Act.put, List.setIfInBounds_toArray, List.set_cons_zero, List.set_cons_succ]
  refine wpAnyH_done (by kernel_rfl) ?_ _
  clear a0
  have Q6 := hide (HPJ.out ▸ Q5.out)
  rw [HPJ.out]
  clear hm
  go_wp2
  go_ret
  exact Q6.out.dp 1 true
set_option maxHeartbeats 8000000 in
theorem do2_bad {N g jb gw : Nat} {va vb vb2 vm : Value} {d : Dk} {s t wt : Int} (p : Option Addr) (n c : Nat) (l : List Rc) (w : World) (h : PD N g w va vb d) (hs : d.stop = -1) (hj : BJ w jb g s t false) (hNj : N ≤ jb) (h01 : s = 0 ∨ s = 1) (ht0 : 0 ≤ t) (ht1 : t ≤ 1099511627776) (hg : BX w gw (WC g jb vb2 vm wt) 49) (hNg : N ≤ gw) {w0 : World} (hA0 : RC w0 p n l) (hw0 : Below w0.heap.size w0 w) (hN0 : N = w0.heap.size) (hC : CP p n c) (hbig : (bytesRs l).length ≤ 100000000) (hm : allMay l = false) :
    Calls Try.prog 18 #[.pointer (some ⟨gw, 0, none⟩), .agg #[.int .i64 2, .slice p n c]] w fun e w' => DP N g jb gw va vb w ((1, d, s, t)) (WC g jb vb2 vm wt) true e w' := by
  have hA := hA0.bel hw0
  have HN0 := hide hN0
  have HNG := hide hNg
  have HB0 := hide (bel1 w (.cells #[.int .i64 2, .slice p n c] 52))
  have Q0 : Hid (WQ N g jb gw w.heap.size w (w.alloc (.cells #[.int .i64 2, .slice p n c] 52)) va vb va vb d s t (WC g jb vb2 vm wt) #[.int .i64 2, .slice p n c]) := ⟨h.below HB0.out, hj.below HB0.out, hg.below HB0.out, BX.new w _ rfl _ _, Sp.below HB0.out, HB0.out.mono h.le⟩
  have R0 := hide (hA.bel HB0.out)
  have HM : Hid (l.all mayRc = allMay l) := rfl
  have HLN : Hid (l.length = n) := hA.len
  clear h hj hg hNg hA hN0
  go_enter Try.func18, Try.ntmps18
  go_wp2_with fail
  refine (mayRs_any p n c l _ R0.out).mono ?_
  rw [HM.out]
  rintro e u ⟨rfl, hb⟩
  replace Q0 := hide (Q0.out.below hb)
  replace R0 := hide (R0.out.bel hb)
  generalize w.alloc (.cells #[.int .i64 2, .slice p n c] 52) = wA at *
  have a0 := Q0.out.2.2.2.1.cell 0 _ rfl
  rw [hm]
  have HPJ : Hid (renJ d s t l = (1, d, s, t)) := by unfold Hid renJ; rw [if_pos hm]
  go_upto_region 15 with fail
  refine wp_region_held_drew (S := fun W => W.cell? ⟨gw, 1, none⟩ = some (.pointer (some ⟨jb, 0, none⟩)) ∧ W.cell? ⟨w.heap.size, 1, none⟩ = some (.slice p n c)) (by kernel_rfl) (⟨Q0.out.2.2.1.cell 1 _ rfl, Q0.out.2.2.2.1.cell 1 _ rfl⟩) (fun hS0 => ?_)
  refine takeInH 0 72 ?v9 rfl rfl (by kernel_rfl) (by kernel_rfl) (by kernel_rfl) (fun _ _ _ h => h) (by kernel_rfl) hS0 ?hy9 ?_
  case hy9 => (intro W hW; clear hW; go_simp; try rfl)
  simp only [Act.put, List.setIfInBounds_toArray, List.set_cons_zero, List.set_cons_succ]
  refine takeInH 1 73 ?v10 rfl rfl (by kernel_rfl) (by kernel_rfl) (by kernel_rfl) (fun _ _ _ h => h) (by kernel_rfl) hS0 ?hy10 ?_
  case hy10 => (intro W hW; clear hW; go_simp; try rfl)
  simp only [Act.put, List.setIfInBounds_toArray, List.set_cons_zero, List.set_cons_succ]
  refine takeInH 2 74 ?v11 rfl rfl (by kernel_rfl) (by kernel_rfl) (by kernel_rfl) (fun _ _ _ h => h) (by kernel_rfl) hS0 ?hy11 ?_
  case hy11 => (intro W hW; clear hW; go_simp; try rfl)
  simp only [Act.put, List.setIfInBounds_toArray, List.set_cons_zero, List.set_cons_succ]
  refine takeInH 3 75 ?v12 rfl rfl (by kernel_rfl) (by kernel_rfl) (by kernel_rfl) (fun _ _ _ h => h) (by kernel_rfl) hS0 ?hy12 ?_
  case hy12 => (intro W hW; have e0 := hW.1; have e1 := hW.2; clear hW; go_simp; try rfl)
  simp only [Act.put, List.setIfInBounds_toArray, List.set_cons_zero, List.set_cons_succ]
  refine takeInH 4 76 ?v13 rfl rfl (by kernel_rfl) (by kernel_rfl) (by kernel_rfl) (fun _ _ _ h => h) (by kernel_rfl) hS0 ?hy13 ?_
  case hy13 => (intro W hW; clear hW; go_simp; try rfl)
  simp only [Act.put, List.setIfInBounds_toArray, List.set_cons_zero, List.set_cons_succ]
  refine takeInH 5 77 ?v14 rfl rfl (by kernel_rfl) (by kernel_rfl) (by kernel_rfl) (fun _ _ _ h => h) (by kernel_rfl) hS0 ?hy14 ?_
  case hy14 => (intro W hW; have e0 := hW.1; have e1 := hW.2; clear hW; go_simp; try rfl)
  simp only [Act.put, List.setIfInBounds_toArray, List.set_cons_zero, List.set_cons_succ]
  refine wpAnyH_ready (rs := [6]) (by kernel_rfl) (by simp) ?_
  refine AllReadyH.cons rfl (fun K hK => ?_) AllReadyH.nil
  go_simp
  refine (Renew_any p n c l _ Q0.out.drew.1 hs Q0.out.drew.2.1 hNj h01 ht0 ht1 R0.out.drew hC hbig).mono ?_
  intro e w5 hp
  obtain ⟨va5, vb5, q5, rfl, k5⟩ := Q0.out.drew.act hp
  have Q5 := hide q5
  have K5 := hide k5
  have B5 := hide hp
  clear hp q5 k5
  refine hK.out _ _ ?hs15 (fun hS1 => ?_)
  case hs15 => exact ⟨Q5.out.2.2.1.cell 1 _ rfl, Q5.out.2.2.2.1.cell 1 _ rfl⟩
  clear hK K
  try simp only [Act.put, List.setIfInBounds_toArray, List.set_cons_zero, List.set_cons_succ]
  refine takeInH 7 7 ?v16 rfl rfl (by kernel_rfl) (by kernel_rfl) (by kernel_rfl) (fun _ _ _ h => h) (by kernel_rfl) hS1 ?hy16 ?_
  case hy16 => (intro W hW; clear hW; go_simp; try rfl)
  simp only [Act.put, List.setIfInBounds_toArray, List.set_cons_zero, List.set_cons_succ]
  refine wpAnyH_done (by kernel_rfl) ?_ _
  clear a0
  have Q6 := hide (HPJ.out ▸ Q5.out)
  rw [HPJ.out]
  clear hm
  go_wp2
  go_ret
  exact Q6.out.dp 1 true
set_option maxHeartbeats 8000000 in
theorem do0_base {N g jb gw : Nat} {va vb vb2 vm : Value} {d : Dk} {s t wt : Int} (p : Option Addr) (n c : Nat) (l : List Rc) (w : World) (h : PD N g w va vb d) (hs : d.stop = -1) (hj : BJ w jb g s t false) (hNj : N ≤ jb) (h01 : s = 0 ∨ s = 1) (ht0 : 0 ≤ t) (ht1 : t ≤ 1099511627776) (hg : BX w gw (WC g jb vb2 vm wt) 49) (hNg : N ≤ gw) {w0 : World} (hA0 : RC w0 p n l) (hw0 : Below w0.heap.size w0 w) (hN0 : N = w0.heap.size) (hC : CP p n c) (hbig : (bytesRs l).length ≤ 100000000) (hm : allMay l = true) (hwt : wt = 0) (hn : 0 < n) :
    Calls Try.prog 18 #[.pointer (some ⟨gw, 0, none⟩), .agg #[.int .i64 0, .slice p n c]] w fun e w' => DP N g jb gw va vb w (putJ d s t l) (WC g jb (.slice p n c) vm 1) ((putJ d s t l).1 == 0) e w' := by
  have hA := hA0.bel hw0
  have HN0 := hide hN0
  obtain ⟨r1, d1, s1, t1, HPJ⟩ : ∃ r1 d1 s1 t1, Hid (putJ d s t l = (r1, d1, s1, t1)) := ⟨_, _, _, _, rfl⟩
  rw [HPJ.out]
  have HNG := hide hNg
  have HB0 := hide (bel1 w (.cells #[.int .i64 0, .slice p n c] 52))
  have Q0 : Hid (WQ N g jb gw w.heap.size w (w.alloc (.cells #[.int .i64 0, .slice p n c] 52)) va vb va vb d s t (WC g jb vb2 vm wt) #[.int .i64 0, .slice p n c]) := ⟨h.below HB0.out, hj.below HB0.out, hg.below HB0.out, BX.new w _ rfl _ _, Sp.below HB0.out, HB0.out.mono h.le⟩
  have R0 := hide (hA.bel HB0.out)
  have HM : Hid (l.all mayRc = allMay l) := rfl
  have HLN : Hid (l.length = n) := hA.len
  clear h hj hg hNg hA hN0
  go_enter Try.func18, Try.ntmps18
  go_wp2_with fail
  refine (mayRs_any p n c l _ R0.out).mono ?_
  rw [HM.out]
  rintro e u ⟨rfl, hb⟩
  replace Q0 := hide (Q0.out.below hb)
  replace R0 := hide (R0.out.bel hb)
  generalize w.alloc (.cells #[.int .i64 0, .slice p n c] 52) = wA at *
  have a0 := Q0.out.2.2.2.1.cell 0 _ rfl
  rw [hm]
  go_upto_region 4 with fail
  refine wp_region_held_drew (S := fun W => W.cell? ⟨gw, 1, none⟩ = some (.pointer (some ⟨jb, 0, none⟩)) ∧ W.cell? ⟨w.heap.size, 1, none⟩ = some (.slice p n c)) (by kernel_rfl) (⟨Q0.out.2.2.1.cell 1 _ rfl, Q0.out.2.2.2.1.cell 1 _ rfl⟩) (fun hS0 => ?_)
  refine takeInH 0 18 ?v17 rfl rfl (by kernel_rfl) (by kernel_rfl) (by kernel_rfl) (fun _ _ _ h => h) (by kernel_rfl) hS0 ?hy17 ?_
  case hy17 => (intro W hW; clear hW; go_simp; try rfl)
  simp only [Act.put, List.setIfInBounds_toArray, List.set_cons_zero, List.set_cons_succ]
  refine takeInH 1 19 ?v18 rfl rfl (by kernel_rfl) (by kernel_rfl) (by kernel_rfl) (fun _ _ _ h => h) (by kernel_rfl) hS0 ?hy18 ?_
  case hy18 => (intro W hW; clear hW; go_simp; try rfl)
  simp only [Act.put, List.setIfInBounds_toArray, List.set_cons_zero, List.set_cons_succ]
  refine takeInH 2 20 ?v19 rfl rfl (by kernel_rfl) (by kernel_rfl) (by kernel_rfl) (fun _ _ _ h => h) (by kernel_rfl) hS0 ?hy19 ?_
  case hy19 => (intro W hW; clear hW; go_simp; try rfl)
  simp only [Act.put, List.setIfInBounds_toArray, List.set_cons_zero, List.set_cons_succ]
  refine takeInH 3 21 ?v20 rfl rfl (by kernel_rfl) (by kernel_rfl) (by kernel_rfl) (fun _ _ _ h => h) (by kernel_rfl) hS0 ?hy20 ?_
  case hy20 => (intro W hW; have e0 := hW.1; have e1 := hW.2; clear hW; go_simp; try rfl)
  simp only [Act.put, List.setIfInBounds_toArray, List.set_cons_zero, List.set_cons_succ]
  refine takeInH 4 22 ?v21 rfl rfl (by kernel_rfl) (by kernel_rfl) (by kernel_rfl) (fun _ _ _ h => h) (by kernel_rfl) hS0 ?hy21 ?_
  case hy21 => (intro W hW; clear hW; go_simp; try rfl)
  simp only [Act.put, List.setIfInBounds_toArray, List.set_cons_zero, List.set_cons_succ]
  refine takeInH 5 23 ?v22 rfl rfl (by kernel_rfl) (by kernel_rfl) (by kernel_rfl) (fun _ _ _ h => h) (by kernel_rfl) hS0 ?hy22 ?_
  case hy22 => (intro W hW; have e0 := hW.1; have e1 := hW.2; clear hW; go_simp; try rfl)
  simp only [Act.put, List.setIfInBounds_toArray, List.set_cons_zero, List.set_cons_succ]
  refine wpAnyH_ready (rs := [6]) (by kernel_rfl) (by simp) ?_
  refine AllReadyH.cons rfl (fun K hK => ?_) AllReadyH.nil
  go_simp
  refine (Put_any p n c l _ Q0.out.drew.1 hs Q0.out.drew.2.1 hNj h01 ht0 ht1 R0.out.drew hC hbig).mono ?_
  intro e w5 hp
  obtain ⟨va5, vb5, q5, rfl, k5⟩ := Q0.out.drew.act hp
  have Q5 := hide q5
  have K5 := hide k5
  have B5 := hide hp
  clear hp q5 k5
  refine hK.out _ _ ?hs23 (fun hS1 => ?_)
  case hs23 => exact ⟨Q5.out.2.2.1.cell 1 _ rfl, Q5.out.2.2.2.1.cell 1 _ rfl⟩
  clear hK K
  try simp only [Act.put, List.setIfInBounds_toArray, List.set_cons_zero, List.set_cons_succ]
  refine takeInH 7 6 ?v24 rfl rfl (by kernel_rfl) (by kernel_rfl) (by kernel_rfl) (fun _ _ _ h => h) (by kernel_rfl) hS1 ?hy24 ?_
  case hy24 => (intro W hW; clear hW; go_simp; try rfl)
  simp only [Act.put, List.setIfInBounds_toArray, List.set_cons_zero, List.set_cons_succ]
  refine wpAnyH_done (by kernel_rfl) ?_ _
  clear a0
  rw [HPJ.out] at Q5 ⊢
  simp only [] at Q5 ⊢
  have b4 := Q5.out.2.2.1.cell 4 _ rfl
  have b2 := Q5.out.2.2.1.cell 2 _ rfl
  have f2 := Q5.out.2.2.1.free 2
  have f4 := Q5.out.2.2.1.free 4
  have c1 := Q5.out.2.2.2.1.cell 1 _ rfl
  have hn' : (n : Int) > 0 := by omega
  have Q6 := hide ((Q5.out.setg HNG.out 2 (.slice p n c)).setg HNG.out 4 (.int .i64 1))
  subst hwt
  clear hm hn
  go_upto_region 11 with fail
  generalize (w5.setCell ⟨gw, 2, none⟩ (.slice p n c)).setCell ⟨gw, 4, none⟩ (.int .i64 1) = w6 at *
  clear b4 b2 f2 f4 c1
  go_wp2
  go_ret
  exact Q6.out.dp r1 _
set_option maxHeartbeats 8000000 in
theorem do0_more {N g jb gw : Nat} {va vb vb2 vm : Value} {d : Dk} {s t wt : Int} (p : Option Addr) (n c : Nat) (l : List Rc) (w : World) (h : PD N g w va vb d) (hs : d.stop = -1) (hj : BJ w jb g s t false) (hNj : N ≤ jb) (h01 : s = 0 ∨ s = 1) (ht0 : 0 ≤ t) (ht1 : t ≤ 1099511627776) (hg : BX w gw (WC g jb vb2 vm wt) 49) (hNg : N ≤ gw) {w0 : World} (hA0 : RC w0 p n l) (hw0 : Below w0.heap.size w0 w) (hN0 : N = w0.heap.size) (hC : CP p n c) (hbig : (bytesRs l).length ≤ 100000000) (hm : allMay l = true) (hwt : wt ≠ 0) (xs : List Rw) (pm : Option Addr) (nm cm M : Nat) (hvm : vm = .slice pm nm cm) (hmo : OwnW M w vm xs) (hxb : xs.length + n ≤ 1000000) :
    Calls Try.prog 18 #[.pointer (some ⟨gw, 0, none⟩), .agg #[.int .i64 0, .slice p n c]] w fun e w' => ∃ V' ys, DP N g jb gw va vb w (putJ d s t l) (WC g jb vb2 V' wt) ((putJ d s t l).1 == 0) e w' ∧ OwnW w.heap.size w' V' (xs ++ ys) ∧ ys.map Rw.rc = l ∧ ∀ y ∈ ys, BS w0 y.p y.b.length y.b ∧ CP y.p y.b.length y.c := by
  have hA := hA0.bel hw0
  have HN0 := hide hN0
  obtain ⟨r1, d1, s1, t1, HPJ⟩ : ∃ r1 d1 s1 t1, Hid (putJ d s t l = (r1, d1, s1, t1)) := ⟨_, _, _, _, rfl⟩
  rw [HPJ.out]
  have HNG := hide hNg
  have HB0 := hide (bel1 w (.cells #[.int .i64 0, .slice p n c] 52))
  have Q0 : Hid (WQ N g jb gw w.heap.size w (w.alloc (.cells #[.int .i64 0, .slice p n c] 52)) va vb va vb d s t (WC g jb vb2 vm wt) #[.int .i64 0, .slice p n c]) := ⟨h.below HB0.out, hj.below HB0.out, hg.below HB0.out, BX.new w _ rfl _ _, Sp.below HB0.out, HB0.out.mono h.le⟩
  have R0 := hide (hA.bel HB0.out)
  have HM : Hid (l.all mayRc = allMay l) := rfl
  have HLN : Hid (l.length = n) := hA.len
  have HWT : Hid ((wt == 0) = false) := by unfold Hid; simpa using hwt
  clear hwt
  have M0 := hide (hmo.alloc (.cells #[.int .i64 0, .slice p n c] 52))
  have HA0 := hide hA0
  have HW0 := hide hw0
  clear hmo
  clear h hj hg hNg hA hN0
  go_enter Try.func18, Try.ntmps18
  go_wp2_with fail
  refine (mayRs_any p n c l _ R0.out).mono ?_
  rw [HM.out]
  rintro e u ⟨rfl, hb⟩
  replace Q0 := hide (Q0.out.below hb)
  replace R0 := hide (R0.out.bel hb)
  generalize w.alloc (.cells #[.int .i64 0, .slice p n c] 52) = wA at *
  have a0 := Q0.out.2.2.2.1.cell 0 _ rfl
  rw [hm]
  replace M0 := hide (M0.out.below hb)
  go_upto_region 4 with fail
  refine wp_region_held_drew (S := fun W => W.cell? ⟨gw, 1, none⟩ = some (.pointer (some ⟨jb, 0, none⟩)) ∧ W.cell? ⟨w.heap.size, 1, none⟩ = some (.slice p n c)) (by kernel_rfl) (⟨Q0.out.2.2.1.cell 1 _ rfl, Q0.out.2.2.2.1.cell 1 _ rfl⟩) (fun hS0 => ?_)
  refine takeInH 0 18 ?v25 rfl rfl (by kernel_rfl) (by kernel_rfl) (by kernel_rfl) (fun _ _ _ h => h) (by kernel_rfl) hS0 ?hy25 ?_
  case hy25 => (intro W hW; clear hW; go_simp; try rfl)
  simp only [Act.put, List.setIfInBounds_toArray, List.set_cons_zero, List.set_cons_succ]
  refine takeInH 1 19 ?v26 rfl rfl (by kernel_rfl) (by kernel_rfl) (by kernel_rfl) (fun _ _ _ h => h) (by kernel_rfl) hS0 ?hy26 ?_
  case hy26 => (intro W hW; clear hW; go_simp; try rfl)
  simp only [Act.put, List.setIfInBounds_toArray, List.set_cons_zero, List.set_cons_succ]
  refine takeInH 2 20 ?v27 rfl rfl (by kernel_rfl) (by kernel_rfl) (by kernel_rfl) (fun _ _ _ h => h) (by kernel_rfl) hS0 ?hy27 ?_
  case hy27 => (intro W hW; clear hW; go_simp; try rfl)
  simp only [Act.put, List.setIfInBounds_toArray, List.set_cons_zero, List.set_cons_succ]
  refine takeInH 3 21 ?v28 rfl rfl (by kernel_rfl) (by kernel_rfl) (by kernel_rfl) (fun _ _ _ h => h) (by kernel_rfl) hS0 ?hy28 ?_
  case hy28 => (intro W hW; have e0 := hW.1; have e1 := hW.2; clear hW; go_simp; try rfl)
  simp only [Act.put, List.setIfInBounds_toArray, List.set_cons_zero, List.set_cons_succ]
  refine takeInH 4 22 ?v29 rfl rfl (by kernel_rfl) (by kernel_rfl) (by kernel_rfl) (fun _ _ _ h => h) (by kernel_rfl) hS0 ?hy29 ?_
  case hy29 => (intro W hW; clear hW; go_simp; try rfl)
  simp only [Act.put, List.setIfInBounds_toArray, List.set_cons_zero, List.set_cons_succ]
  refine takeInH 5 23 ?v30 rfl rfl (by kernel_rfl) (by kernel_rfl) (by kernel_rfl) (fun _ _ _ h => h) (by kernel_rfl) hS0 ?hy30 ?_
  case hy30 => (intro W hW; have e0 := hW.1; have e1 := hW.2; clear hW; go_simp; try rfl)
  simp only [Act.put, List.setIfInBounds_toArray, List.set_cons_zero, List.set_cons_succ]
  refine wpAnyH_ready (rs := [6]) (by kernel_rfl) (by simp) ?_
  refine AllReadyH.cons rfl (fun K hK => ?_) AllReadyH.nil
  go_simp
  refine (Put_any p n c l _ Q0.out.drew.1 hs Q0.out.drew.2.1 hNj h01 ht0 ht1 R0.out.drew hC hbig).mono ?_
  intro e w5 hp
  obtain ⟨va5, vb5, q5, rfl, k5⟩ := Q0.out.drew.act hp
  have Q5 := hide q5
  have K5 := hide k5
  have B5 := hide hp
  clear hp q5 k5
  refine hK.out _ _ ?hs31 (fun hS1 => ?_)
  case hs31 => exact ⟨Q5.out.2.2.1.cell 1 _ rfl, Q5.out.2.2.2.1.cell 1 _ rfl⟩
  clear hK K
  try simp only [Act.put, List.setIfInBounds_toArray, List.set_cons_zero, List.set_cons_succ]
  refine takeInH 7 6 ?v32 rfl rfl (by kernel_rfl) (by kernel_rfl) (by kernel_rfl) (fun _ _ _ h => h) (by kernel_rfl) hS1 ?hy32 ?_
  case hy32 => (intro W hW; clear hW; go_simp; try rfl)
  simp only [Act.put, List.setIfInBounds_toArray, List.set_cons_zero, List.set_cons_succ]
  refine wpAnyH_done (by kernel_rfl) ?_ _
  clear a0
  have M5 := hide (OwnW.spw Q0.out.drew M0.out.drew K5.out)
  rw [HPJ.out] at Q5 ⊢
  simp only [] at Q5 ⊢
  have W5 := hide (HW0.out.trans (HN0.out ▸ Q5.out.2.2.2.2.2))
  have HSZ : Hid (w.heap.size ≤ w5.heap.size) := Q5.out.2.2.2.2.1.2.2
  have b4 := Q5.out.2.2.1.cell 4 _ rfl
  have c1 := Q5.out.2.2.2.1.cell 1 _ rfl
  obtain ⟨ys, hy1, hy2, hy3⟩ := HA0.out.rows
  have HYM := hide hy1
  have HYB := hide hy3
  have HY := hide (hy2.below W5.out)
  have HYL : Hid (ys.length = n) := hy2.1
  obtain ⟨pq, cq, hq, hx1, hx2⟩ := M5.out.open encW_len
  subst hvm
  injection hq with hq1 hq2 hq3
  subst hq1 hq2 hq3
  have HX := hide hx1
  have hcm := hx2
  have HXL : Hid (xs.length + n ≤ 1000000) := hxb
  clear hy1 hy2 hy3 hx1 hx2 hxb hm
  have hw' := HWT.out
  generalize hnx : xs.length = nx at *
  have HNX := hide hnx
  clear hnx
  go_upto_region 10 with fail
  clear b4 c1
  refine wp_region_held_drew (S := fun W => W.cell? ⟨w.heap.size, 1, none⟩ = some (.slice p n c)) (by kernel_rfl) (Q5.out.2.2.2.1.cell 1 _ rfl) (fun hS0 => ?_)
  refine takeInH 0 48 ?v33 rfl rfl (by kernel_rfl) (by kernel_rfl) (by kernel_rfl) (fun _ _ _ h => h) (by kernel_rfl) hS0 ?hy33 ?_
  case hy33 => (intro W hW; clear hW; go_simp; try rfl)
  simp only [Act.put, List.setIfInBounds_toArray, List.set_cons_zero, List.set_cons_succ]
  refine takeInH 2 50 ?v34 rfl rfl (by kernel_rfl) (by kernel_rfl) (by kernel_rfl) (fun _ _ _ h => h) (by kernel_rfl) hS0 ?hy34 ?_
  case hy34 => (intro W hW; clear hW; go_simp; try rfl)
  simp only [Act.put, List.setIfInBounds_toArray, List.set_cons_zero, List.set_cons_succ]
  refine takeInH 3 51 ?v35 rfl rfl (by kernel_rfl) (by kernel_rfl) (by kernel_rfl) (fun _ _ _ h => h) (by kernel_rfl) hS0 ?hy35 ?_
  case hy35 => (intro W hW; clear hW; go_simp; try rfl)
  simp only [Act.put, List.setIfInBounds_toArray, List.set_cons_zero, List.set_cons_succ]
  refine takeInH 4 52 ?v36 rfl rfl (by kernel_rfl) (by kernel_rfl) (by kernel_rfl) (fun _ _ _ h => h) (by kernel_rfl) hS0 ?hy36 ?_
  case hy36 => (intro W hW; clear hW; go_simp; try rfl)
  simp only [Act.put, List.setIfInBounds_toArray, List.set_cons_zero, List.set_cons_succ]
  refine takeInH 7 55 ?v37 rfl rfl (by kernel_rfl) (by kernel_rfl) (by kernel_rfl) (fun _ _ _ h => h) (by kernel_rfl) hS0 ?hy37 ?_
  case hy37 => (intro W hW; clear hW; go_simp; try rfl)
  simp only [Act.put, List.setIfInBounds_toArray, List.set_cons_zero, List.set_cons_succ]
  refine takeInH 8 56 ?v38 rfl rfl (by kernel_rfl) (by kernel_rfl) (by kernel_rfl) (fun _ _ _ h => h) (by kernel_rfl) hS0 ?hy38 ?_
  case hy38 => (intro W hW; have e0 := hW; clear hW; go_simp; try rfl)
  simp only [Act.put, List.setIfInBounds_toArray, List.set_cons_zero, List.set_cons_succ]
  refine wpAnyH_ready (rs := [1, 5]) (by kernel_rfl) (by simp) ?_
  refine AllReadyH.cons rfl (fun K hK => ?_) (AllReadyH.cons rfl (fun K hK => ?_) AllReadyH.nil)
  · go_simp
    have OW := hide (OwnR.made (enc := encW) (k := 2) (T := 71) w5 w5.heap.size w5.heap.size rfl (Nat.le_refl _)).drew
    have BL : Hid (Below w5.heap.size w5 (w5.alloc (.cells #[] 71)).drew) := ((Below.refl _ w5).alloc (Nat.le_refl _) _).drew
    generalize (w5.alloc (.cells #[] 71)).drew = w6 at *
    refine hK.out _ _ ?hs39 (fun hS1 => ?_)
    case hs39 => exact (Q5.out.below BL.out).2.2.2.1.cell 1 _ rfl
    clear hK K
    try simp only [Act.put, List.setIfInBounds_toArray, List.set_cons_zero, List.set_cons_succ]
    refine wpAnyH_ready (rs := [5]) (by kernel_rfl) (by simp) ?_
    refine AllReadyH.cons rfl (fun K hK => ?_) AllReadyH.nil
    have e3 := (Q5.out.below BL.out).2.2.1.cell 3 _ rfl
    go_simp
    refine hK.out _ _ ?hs40 (fun hS2 => ?_)
    case hs40 => exact (Q5.out.below BL.out).2.2.2.1.cell 1 _ rfl
    clear hK K
    try simp only [Act.put, List.setIfInBounds_toArray, List.set_cons_zero, List.set_cons_succ]
    refine wpAnyH_ready (rs := [6]) (by kernel_rfl) (by simp) ?_
    refine AllReadyH.cons rfl (fun K hK => ?_) AllReadyH.nil
    rw [if_pos (by kernel_rfl)]
    refine append_rw _ _ 30 rfl Try.underlying30 Try.infoRec rfl (by decide) (by decide) encW_len oneW' w5.heap.size _ [] xs rfl OW.out pm nx cm rfl hcm.2.2 (HX.out.below BL.out) (by have := HXL.out; have := HNX.out; simp; omega) BL.out.size ?_
    intro v7 w7 ho hgr hbel
    have O7 := hide ho
    replace BL := hide (hbel _ BL.out)
    clear ho hgr hbel
    rw [List.nil_append] at O7
    clear OW
    change K (Act.put _ (some 54) _) _
    refine hK.out _ _ ?hs41 (fun hS3 => ?_)
    case hs41 => exact (Q5.out.below BL.out).2.2.2.1.cell 1 _ rfl
    clear hK K
    try simp only [Act.put, List.setIfInBounds_toArray, List.set_cons_zero, List.set_cons_succ]
    refine wpAnyH_ready (rs := [9]) (by kernel_rfl) (by simp) ?_
    refine AllReadyH.cons rfl (fun K hK => ?_) AllReadyH.nil
    rw [if_pos (by kernel_rfl)]
    refine append_rw _ _ 30 rfl Try.underlying30 Try.infoRec rfl (by decide) (by decide) encW_len oneW' w5.heap.size _ xs ys rfl O7.out p n c rfl hC.2.2 (HY.out.below BL.out) (by have := HXL.out; have := HYL.out; have := HNX.out; omega) BL.out.size ?_
    intro v8 w8 ho hgr hbel
    have O8 := hide ho
    replace BL := hide (hbel _ BL.out)
    obtain ⟨p8, c8, h8, _, _⟩ := ho.open encW_len
    subst h8
    generalize hn8 : (xs ++ ys).length = n8 at *
    clear hn8 ho hgr hbel
    clear O7
    change K (Act.put _ (some 57) _) _
    refine hK.out _ _ ?hs42 (fun hS4 => ?_)
    case hs42 => exact (Q5.out.below BL.out).2.2.2.1.cell 1 _ rfl
    clear hK K
    try simp only [Act.put, List.setIfInBounds_toArray, List.set_cons_zero, List.set_cons_succ]
    refine takeInH 10 58 ?v43 rfl rfl (by kernel_rfl) (by kernel_rfl) (by kernel_rfl) (fun _ _ _ h => h) (by kernel_rfl) hS4 ?hy43 ?_
    case hy43 => (intro W hW; clear hW; go_simp; try rfl)
    simp only [Act.put, List.setIfInBounds_toArray, List.set_cons_zero, List.set_cons_succ]
    refine takeInH 11 59 ?v44 rfl rfl (by kernel_rfl) (by kernel_rfl) (by kernel_rfl) (fun _ _ _ h => h) (by kernel_rfl) hS4 ?hy44 ?_
    case hy44 => (intro W hW; clear hW; go_simp; try rfl)
    simp only [Act.put, List.setIfInBounds_toArray, List.set_cons_zero, List.set_cons_succ]
    refine wpAnyH_ready (rs := [12]) (by kernel_rfl) (by simp) ?_
    refine AllReadyH.cons rfl (fun K hK => ?_) AllReadyH.nil
    have Q8 := hide (Q5.out.below BL.out)
    have b3 := Q8.out.2.2.1.cell 3 _ rfl
    have f3 := Q8.out.2.2.1.free 3
    have Q9 := hide (Q8.out.setg HNG.out 3 (.slice p8 n8 c8))
    go_simp
    refine hK.out _ _ ?hs45 (fun hS5 => ?_)
    case hs45 => exact Q9.out.2.2.2.1.cell 1 _ rfl
    clear hK K
    refine wpAnyH_done (by kernel_rfl) ?_ _
    have O9 := hide (O8.out.set (O8.out.off Q8.out.2.2.1 (by decide)) 3 (.slice p8 n8 c8))
    generalize w8.setCell ⟨gw, 3, none⟩ (.slice p8 n8 c8) = w9 at *
    clear b3 f3
    go_wp2
    go_ret
    exact ⟨.slice p8 n8 c8, ys, Q9.out.dp r1 _, O9.out.mono HSZ.out, HYM.out, HYB.out⟩
  · have e3 := Q5.out.drew.2.2.1.cell 3 _ rfl
    go_simp
    refine hK.out _ _ ?hs46 (fun hS1 => ?_)
    case hs46 => exact Q5.out.drew.2.2.2.1.cell 1 _ rfl
    clear hK K
    try simp only [Act.put, List.setIfInBounds_toArray, List.set_cons_zero, List.set_cons_succ]
    refine wpAnyH_ready (rs := [1]) (by kernel_rfl) (by simp) ?_
    refine AllReadyH.cons rfl (fun K hK => ?_) AllReadyH.nil
    go_simp
    have OW := hide (OwnR.made (enc := encW) (k := 2) (T := 71) w5 w5.heap.size w5.heap.size rfl (Nat.le_refl _)).drew
    have BL : Hid (Below w5.heap.size w5 (w5.alloc (.cells #[] 71)).drew) := ((Below.refl _ w5).alloc (Nat.le_refl _) _).drew
    generalize (w5.alloc (.cells #[] 71)).drew = w6 at *
    refine hK.out _ _ ?hs47 (fun hS2 => ?_)
    case hs47 => exact (Q5.out.below BL.out).2.2.2.1.cell 1 _ rfl
    clear hK K
    try simp only [Act.put, List.setIfInBounds_toArray, List.set_cons_zero, List.set_cons_succ]
    refine wpAnyH_ready (rs := [6]) (by kernel_rfl) (by simp) ?_
    refine AllReadyH.cons rfl (fun K hK => ?_) AllReadyH.nil
    rw [if_pos (by kernel_rfl)]
    refine append_rw _ _ 30 rfl Try.underlying30 Try.infoRec rfl (by decide) (by decide) encW_len oneW' w5.heap.size _ [] xs rfl OW.out pm nx cm rfl hcm.2.2 (HX.out.below BL.out) (by have := HXL.out; have := HNX.out; simp; omega) BL.out.size ?_
    intro v7 w7 ho hgr hbel
    have O7 := hide ho
    replace BL := hide (hbel _ BL.out)
    clear ho hgr hbel
    rw [List.nil_append] at O7
    clear OW
    change K (Act.put _ (some 54) _) _
    refine hK.out _ _ ?hs48 (fun hS3 => ?_)
    case hs48 => exact (Q5.out.below BL.out).2.2.2.1.cell 1 _ rfl
    clear hK K
    try simp only [Act.put, List.setIfInBounds_toArray, List.set_cons_zero, List.set_cons_succ]
    refine wpAnyH_ready (rs := [9]) (by kernel_rfl) (by simp) ?_
    refine AllReadyH.cons rfl (fun K hK => ?_) AllReadyH.nil
    rw [if_pos (by kernel_rfl)]
    refine append_rw _ _ 30 rfl Try.underlying30 Try.infoRec rfl (by decide) (by decide) encW_len oneW' w5.heap.size _ xs ys rfl O7.out p n c rfl hC.2.2 (HY.out.below BL.out) (by have := HXL.out; have := HYL.out; have := HNX.out; omega) BL.out.size ?_
    intro v8 w8 ho hgr hbel
    have O8 := hide ho
    replace BL := hide (hbel _ BL.out)
    obtain ⟨p8, c8, h8, _, _⟩ := ho.open encW_len
    subst h8
    generalize hn8 : (xs ++ ys).length = n8 at *
    clear hn8 ho hgr hbel
    clear O7
    change K (Act.put _ (some 57) _) _
    refine hK.out _ _ ?hs49 (fun hS4 => ?_)
    case hs49 => exact (Q5.out.below BL.out).2.2.2.1.cell 1 _ rfl
    clear hK K
    try simp only [Act.put, List.setIfInBounds_toArray, List.set_cons_zero, List.set_cons_succ]
    refine takeInH 10 58 ?v50 rfl rfl (by kernel_rfl) (by kernel_rfl) (by kernel_rfl) (fun _ _ _ h => h) (by kernel_rfl) hS4 ?hy50 ?_
    case hy50 => (intro W hW; clear hW; go_simp; try rfl)
    simp only [Act.put, List.setIfInBounds_toArray, List.set_cons_zero, List.set_cons_succ]
    refine takeInH 11 59 ?v51 rfl rfl (by kernel_rfl) (by kernel_rfl) (by kernel_rfl) (fun _ _ _ h => h) (by kernel_rfl) hS4 ?hy51 ?_
    case hy51 => (intro W hW; clear hW; go_simp; try rfl)
    simp only [Act.put, List.setIfInBounds_toArray, List.set_cons_zero, List.set_cons_succ]
    refine wpAnyH_ready (rs := [12]) (by kernel_rfl) (by simp) ?_
    refine AllReadyH.cons rfl (fun K hK => ?_) AllReadyH.nil
    have Q8 := hide (Q5.out.below BL.out)
    have b3 := Q8.out.2.2.1.cell 3 _ rfl
    have f3 := Q8.out.2.2.1.free 3
    have Q9 := hide (Q8.out.setg HNG.out 3 (.slice p8 n8 c8))
    go_simp
    refine hK.out _ _ ?hs52 (fun hS5 => ?_)
    case hs52 => exact Q9.out.2.2.2.1.cell 1 _ rfl
    clear hK K
    refine wpAnyH_done (by kernel_rfl) ?_ _
    have O9 := hide (O8.out.set (O8.out.off Q8.out.2.2.1 (by decide)) 3 (.slice p8 n8 c8))
    generalize w8.setCell ⟨gw, 3, none⟩ (.slice p8 n8 c8) = w9 at *
    clear b3 f3
    go_wp2
    go_ret
    exact ⟨.slice p8 n8 c8, ys, Q9.out.dp r1 _, O9.out.mono HSZ.out, HYM.out, HYB.out⟩
set_option maxHeartbeats 8000000 in
theorem do0_none {N g jb gw : Nat} {va vb vb2 vm : Value} {d : Dk} {s t wt : Int} (p : Option Addr) (n c : Nat) (l : List Rc) (w : World) (h : PD N g w va vb d) (hs : d.stop = -1) (hj : BJ w jb g s t false) (hNj : N ≤ jb) (h01 : s = 0 ∨ s = 1) (ht0 : 0 ≤ t) (ht1 : t ≤ 1099511627776) (hg : BX w gw (WC g jb vb2 vm wt) 49) (hNg : N ≤ gw) {w0 : World} (hA0 : RC w0 p n l) (hw0 : Below w0.heap.size w0 w) (hN0 : N = w0.heap.size) (hC : CP p n c) (hbig : (bytesRs l).length ≤ 100000000) (hm : allMay l = true) (hwt : wt = 0) (hn : n = 0) (xs : List Rw) (pm : Option Addr) (nm cm M : Nat) (hvm : vm = .slice pm nm cm) (hmo : OwnW M w vm xs) (hxb : xs.length + n ≤ 1000000) :
    Calls Try.prog 18 #[.pointer (some ⟨gw, 0, none⟩), .agg #[.int .i64 0, .slice p n c]] w fun e w' => ∃ V' ys, DP N g jb gw va vb w (putJ d s t l) (WC g jb vb2 V' wt) ((putJ d s t l).1 == 0) e w' ∧ OwnW w.heap.size w' V' (xs ++ ys) ∧ ys.map Rw.rc = l ∧ ∀ y ∈ ys, BS w0 y.p y.b.length y.b ∧ CP y.p y.b.length y.c := by
  have hA := hA0.bel hw0
  have HN0 := hide hN0
  obtain ⟨r1, d1, s1, t1, HPJ⟩ : ∃ r1 d1 s1 t1, Hid (putJ d s t l = (r1, d1, s1, t1)) := ⟨_, _, _, _, rfl⟩
  rw [HPJ.out]
  have HNG := hide hNg
  have HB0 := hide (bel1 w (.cells #[.int .i64 0, .slice p n c] 52))
  have Q0 : Hid (WQ N g jb gw w.heap.size w (w.alloc (.cells #[.int .i64 0, .slice p n c] 52)) va vb va vb d s t (WC g jb vb2 vm wt) #[.int .i64 0, .slice p n c]) := ⟨h.below HB0.out, hj.below HB0.out, hg.below HB0.out, BX.new w _ rfl _ _, Sp.below HB0.out, HB0.out.mono h.le⟩
  have R0 := hide (hA.bel HB0.out)
  have HM : Hid (l.all mayRc = allMay l) := rfl
  have HLN : Hid (l.length = n) := hA.len
  have HWT : Hid ((wt == 0) = true) := by unfold Hid; simpa using hwt
  have HNN : Hid (¬ (n : Int) > 0) := by unfold Hid; omega
  clear hwt hn
  have M0 := hide (hmo.alloc (.cells #[.int .i64 0, .slice p n c] 52))
  have HA0 := hide hA0
  have HW0 := hide hw0
  clear hmo
  clear h hj hg hNg hA hN0
  go_enter Try.func18, Try.ntmps18
  go_wp2_with fail
  refine (mayRs_any p n c l _ R0.out).mono ?_
  rw [HM.out]
  rintro e u ⟨rfl, hb⟩
  replace Q0 := hide (Q0.out.below hb)
  replace R0 := hide (R0.out.bel hb)
  generalize w.alloc (.cells #[.int .i64 0, .slice p n c] 52) = wA at *
  have a0 := Q0.out.2.2.2.1.cell 0 _ rfl
  rw [hm]
  replace M0 := hide (M0.out.below hb)
  go_upto_region 4 with fail
  refine wp_region_held_drew (S := fun W => W.cell? ⟨gw, 1, none⟩ = some (.pointer (some ⟨jb, 0, none⟩)) ∧ W.cell? ⟨w.heap.size, 1, none⟩ = some (.slice p n c)) (by kernel_rfl) (⟨Q0.out.2.2.1.cell 1 _ rfl, Q0.out.2.2.2.1.cell 1 _ rfl⟩) (fun hS0 => ?_)
  refine takeInH 0 18 ?v53 rfl rfl (by kernel_rfl) (by kernel_rfl) (by kernel_rfl) (fun _ _ _ h => h) (by kernel_rfl) hS0 ?hy53 ?_
  case hy53 => (intro W hW; clear hW; go_simp; try rfl)
  simp only [Act.put, List.setIfInBounds_toArray, List.set_cons_zero, List.set_cons_succ]
  refine takeInH 1 19 ?v54 rfl rfl (by kernel_rfl) (by kernel_rfl) (by kernel_rfl) (fun _ _ _ h => h) (by kernel_rfl) hS0 ?hy54 ?_
  case hy54 => (intro W hW; clear hW; go_simp; try rfl)
  simp only [Act.put, List.setIfInBounds_toArray, List.set_cons_zero, List.set_cons_succ]
  refine takeInH 2 20 ?v55 rfl rfl (by kernel_rfl) (by kernel_rfl) (by kernel_rfl) (fun _ _ _ h => h) (by kernel_rfl) hS0 ?hy55 ?_
  case hy55 => (intro W hW; clear hW; go_simp; try rfl)
  simp only [Act.put, List.setIfInBounds_toArray, List.set_cons_zero, List.set_cons_succ]
  refine takeInH 3 21 ?v56 rfl rfl (by kernel_rfl) (by kernel_rfl) (by kernel_rfl) (fun _ _ _ h => h) (by kernel_rfl) hS0 ?hy56 ?_
  case hy56 => (intro W hW; have e0 := hW.1; have e1 := hW.2; clear hW; go_simp; try rfl)
  simp only [Act.put, List.setIfInBounds_toArray, List.set_cons_zero, List.set_cons_succ]
  refine takeInH 4 22 ?v57 rfl rfl (by kernel_rfl) (by kernel_rfl) (by kernel_rfl) (fun _ _ _ h => h) (by kernel_rfl) hS0 ?hy57 ?_
  case hy57 => (intro W hW; clear hW; go_simp; try rfl)
  simp only [Act.put, List.setIfInBounds_toArray, List.set_cons_zero, List.set_cons_succ]
  refine takeInH 5 23 ?v58 rfl rfl (by kernel_rfl) (by kernel_rfl) (by kernel_rfl) (fun _ _ _ h => h) (by kernel_rfl) hS0 ?hy58 ?_
  case hy58 => (intro W hW; have e0 := hW.1; have e1 := hW.2; clear hW; go_simp; try rfl)
  simp only [Act.put, List.setIfInBounds_toArray, List.set_cons_zero, List.set_cons_succ]
  refine wpAnyH_ready (rs := [6]) (by kernel_rfl) (by simp) ?_
  refine AllReadyH.cons rfl (fun K hK => ?_) AllReadyH.nil
  go_simp
  refine (Put_any p n c l _ Q0.out.drew.1 hs Q0.out.drew.2.1 hNj h01 ht0 ht1 R0.out.drew hC hbig).mono ?_
  intro e w5 hp
  obtain ⟨va5, vb5, q5, rfl, k5⟩ := Q0.out.drew.act hp
  have Q5 := hide q5
  have K5 := hide k5
  have B5 := hide hp
  clear hp q5 k5
  refine hK.out _ _ ?hs59 (fun hS1 => ?_)
  case hs59 => exact ⟨Q5.out.2.2.1.cell 1 _ rfl, Q5.out.2.2.2.1.cell 1 _ rfl⟩
  clear hK K
  try simp only [Act.put, List.setIfInBounds_toArray, List.set_cons_zero, List.set_cons_succ]
  refine takeInH 7 6 ?v60 rfl rfl (by kernel_rfl) (by kernel_rfl) (by kernel_rfl) (fun _ _ _ h => h) (by kernel_rfl) hS1 ?hy60 ?_
  case hy60 => (intro W hW; clear hW; go_simp; try rfl)
  simp only [Act.put, List.setIfInBounds_toArray, List.set_cons_zero, List.set_cons_succ]
  refine wpAnyH_done (by kernel_rfl) ?_ _
  clear a0
  have M5 := hide (OwnW.spw Q0.out.drew M0.out.drew K5.out)
  rw [HPJ.out] at Q5 ⊢
  simp only [] at Q5 ⊢
  have W5 := hide (HW0.out.trans (HN0.out ▸ Q5.out.2.2.2.2.2))
  have HSZ : Hid (w.heap.size ≤ w5.heap.size) := Q5.out.2.2.2.2.1.2.2
  have b4 := Q5.out.2.2.1.cell 4 _ rfl
  have c1 := Q5.out.2.2.2.1.cell 1 _ rfl
  obtain ⟨ys, hy1, hy2, hy3⟩ := HA0.out.rows
  have HYM := hide hy1
  have HYB := hide hy3
  have HY := hide (hy2.below W5.out)
  have HYL : Hid (ys.length = n) := hy2.1
  obtain ⟨pq, cq, hq, hx1, hx2⟩ := M5.out.open encW_len
  subst hvm
  injection hq with hq1 hq2 hq3
  subst hq1 hq2 hq3
  have HX := hide hx1
  have hcm := hx2
  have HXL : Hid (xs.length + n ≤ 1000000) := hxb
  clear hy1 hy2 hy3 hx1 hx2 hxb hm
  have hw' := HWT.out
  have hn' := HNN.out
  generalize hnx : xs.length = nx at *
  have HNX := hide hnx
  clear hnx
  go_upto_region 10 with fail
  clear b4 c1
  refine wp_region_held_drew (S := fun W => W.cell? ⟨w.heap.size, 1, none⟩ = some (.slice p n c)) (by kernel_rfl) (Q5.out.2.2.2.1.cell 1 _ rfl) (fun hS0 => ?_)
  refine takeInH 0 48 ?v61 rfl rfl (by kernel_rfl) (by kernel_rfl) (by kernel_rfl) (fun _ _ _ h => h) (by kernel_rfl) hS0 ?hy61 ?_
  case hy61 => (intro W hW; clear hW; go_simp; try rfl)
  simp only [Act.put, List.setIfInBounds_toArray, List.set_cons_zero, List.set_cons_succ]
  refine takeInH 2 50 ?v62 rfl rfl (by kernel_rfl) (by kernel_rfl) (by kernel_rfl) (fun _ _ _ h => h) (by kernel_rfl) hS0 ?hy62 ?_
  case hy62 => (intro W hW; clear hW; go_simp; try rfl)
  simp only [Act.put, List.setIfInBounds_toArray, List.set_cons_zero, List.set_cons_succ]
  refine takeInH 3 51 ?v63 rfl rfl (by kernel_rfl) (by kernel_rfl) (by kernel_rfl) (fun _ _ _ h => h) (by kernel_rfl) hS0 ?hy63 ?_
  case hy63 => (intro W hW; clear hW; go_simp; try rfl)
  simp only [Act.put, List.setIfInBounds_toArray, List.set_cons_zero, List.set_cons_succ]
  refine takeInH 4 52 ?v64 rfl rfl (by kernel_rfl) (by kernel_rfl) (by kernel_rfl) (fun _ _ _ h => h) (by kernel_rfl) hS0 ?hy64 ?_
  case hy64 => (intro W hW; clear hW; go_simp; try rfl)
  simp only [Act.put, List.setIfInBounds_toArray, List.set_cons_zero, List.set_cons_succ]
  refine takeInH 7 55 ?v65 rfl rfl (by kernel_rfl) (by kernel_rfl) (by kernel_rfl) (fun _ _ _ h => h) (by kernel_rfl) hS0 ?hy65 ?_
  case hy65 => (intro W hW; clear hW; go_simp; try rfl)
  simp only [Act.put, List.setIfInBounds_toArray, List.set_cons_zero, List.set_cons_succ]
  refine takeInH 8 56 ?v66 rfl rfl (by kernel_rfl) (by kernel_rfl) (by kernel_rfl) (fun _ _ _ h => h) (by kernel_rfl) hS0 ?hy66 ?_
  case hy66 => (intro W hW; have e0 := hW; clear hW; go_simp; try rfl)
  simp only [Act.put, List.setIfInBounds_toArray, List.set_cons_zero, List.set_cons_succ]
  refine wpAnyH_ready (rs := [1, 5]) (by kernel_rfl) (by simp) ?_
  refine AllReadyH.cons rfl (fun K hK => ?_) (AllReadyH.cons rfl (fun K hK => ?_) AllReadyH.nil)
  · go_simp
    have OW := hide (OwnR.made (enc := encW) (k := 2) (T := 71) w5 w5.heap.size w5.heap.size rfl (Nat.le_refl _)).drew
    have BL : Hid (Below w5.heap.size w5 (w5.alloc (.cells #[] 71)).drew) := ((Below.refl _ w5).alloc (Nat.le_refl _) _).drew
    generalize (w5.alloc (.cells #[] 71)).drew = w6 at *
    refine hK.out _ _ ?hs67 (fun hS1 => ?_)
    case hs67 => exact (Q5.out.below BL.out).2.2.2.1.cell 1 _ rfl
    clear hK K
    try simp only [Act.put, List.setIfInBounds_toArray, List.set_cons_zero, List.set_cons_succ]
    refine wpAnyH_ready (rs := [5]) (by kernel_rfl) (by simp) ?_
    refine AllReadyH.cons rfl (fun K hK => ?_) AllReadyH.nil
    have e3 := (Q5.out.below BL.out).2.2.1.cell 3 _ rfl
    go_simp
    refine hK.out _ _ ?hs68 (fun hS2 => ?_)
    case hs68 => exact (Q5.out.below BL.out).2.2.2.1.cell 1 _ rfl
    clear hK K
    try simp only [Act.put, List.setIfInBounds_toArray, List.set_cons_zero, List.set_cons_succ]
    refine wpAnyH_ready (rs := [6]) (by kernel_rfl) (by simp) ?_
    refine AllReadyH.cons rfl (fun K hK => ?_) AllReadyH.nil
    rw [if_pos (by kernel_rfl)]
    refine append_rw _ _ 30 rfl Try.underlying30 Try.infoRec rfl (by decide) (by decide) encW_len oneW' w5.heap.size _ [] xs rfl OW.out pm nx cm rfl hcm.2.2 (HX.out.below BL.out) (by have := HXL.out; have := HNX.out; simp; omega) BL.out.size ?_
    intro v7 w7 ho hgr hbel
    have O7 := hide ho
    replace BL := hide (hbel _ BL.out)
    clear ho hgr hbel
    rw [List.nil_append] at O7
    clear OW
    change K (Act.put _ (some 54) _) _
    refine hK.out _ _ ?hs69 (fun hS3 => ?_)
    case hs69 => exact (Q5.out.below BL.out).2.2.2.1.cell 1 _ rfl
    clear hK K
    try simp only [Act.put, List.setIfInBounds_toArray, List.set_cons_zero, List.set_cons_succ]
    refine wpAnyH_ready (rs := [9]) (by kernel_rfl) (by simp) ?_
    refine AllReadyH.cons rfl (fun K hK => ?_) AllReadyH.nil
    rw [if_pos (by kernel_rfl)]
    refine append_rw _ _ 30 rfl Try.underlying30 Try.infoRec rfl (by decide) (by decide) encW_len oneW' w5.heap.size _ xs ys rfl O7.out p n c rfl hC.2.2 (HY.out.below BL.out) (by have := HXL.out; have := HYL.out; have := HNX.out; omega) BL.out.size ?_
    intro v8 w8 ho hgr hbel
    have O8 := hide ho
    replace BL := hide (hbel _ BL.out)
    obtain ⟨p8, c8, h8, _, _⟩ := ho.open encW_len
    subst h8
    generalize hn8 : (xs ++ ys).length = n8 at *
    clear hn8 ho hgr hbel
    clear O7
    change K (Act.put _ (some 57) _) _
    refine hK.out _ _ ?hs70 (fun hS4 => ?_)
    case hs70 => exact (Q5.out.below BL.out).2.2.2.1.cell 1 _ rfl
    clear hK K
    try simp only [Act.put, List.setIfInBounds_toArray, List.set_cons_zero, List.set_cons_succ]
    refine takeInH 10 58 ?v71 rfl rfl (by kernel_rfl) (by kernel_rfl) (by kernel_rfl) (fun _ _ _ h => h) (by kernel_rfl) hS4 ?hy71 ?_
    case hy71 => (intro W hW; clear hW; go_simp; try rfl)
    simp only [Act.put, List.setIfInBounds_toArray, List.set_cons_zero, List.set_cons_succ]
    refine takeInH 11 59 ?v72 rfl rfl (by kernel_rfl) (by kernel_rfl) (by kernel_rfl) (fun _ _ _ h => h) (by kernel_rfl) hS4 ?hy72 ?_
    case hy72 => (intro W hW; clear hW; go_simp; try rfl)
    simp only [Act.put, List.setIfInBounds_toArray, List.set_cons_zero, List.set_cons_succ]
    refine wpAnyH_ready (rs := [12]) (by kernel_rfl) (by simp) ?_
    refine AllReadyH.cons rfl (fun K hK => ?_) AllReadyH.nil
    have Q8 := hide (Q5.out.below BL.out)
    have b3 := Q8.out.2.2.1.cell 3 _ rfl
    have f3 := Q8.out.2.2.1.free 3
    have Q9 := hide (Q8.out.setg HNG.out 3 (.slice p8 n8 c8))
    go_simp
    refine hK.out _ _ ?hs73 (fun hS5 => ?_)
    case hs73 => exact Q9.out.2.2.2.1.cell 1 _ rfl
    clear hK K
    refine wpAnyH_done (by kernel_rfl) ?_ _
    have O9 := hide (O8.out.set (O8.out.off Q8.out.2.2.1 (by decide)) 3 (.slice p8 n8 c8))
    generalize w8.setCell ⟨gw, 3, none⟩ (.slice p8 n8 c8) = w9 at *
    clear b3 f3
    go_wp2
    go_ret
    exact ⟨.slice p8 n8 c8, ys, Q9.out.dp r1 _, O9.out.mono HSZ.out, HYM.out, HYB.out⟩
  · have e3 := Q5.out.drew.2.2.1.cell 3 _ rfl
    go_simp
    refine hK.out _ _ ?hs74 (fun hS1 => ?_)
    case hs74 => exact Q5.out.drew.2.2.2.1.cell 1 _ rfl
    clear hK K
    try simp only [Act.put, List.setIfInBounds_toArray, List.set_cons_zero, List.set_cons_succ]
    refine wpAnyH_ready (rs := [1]) (by kernel_rfl) (by simp) ?_
    refine AllReadyH.cons rfl (fun K hK => ?_) AllReadyH.nil
    go_simp
    have OW := hide (OwnR.made (enc := encW) (k := 2) (T := 71) w5 w5.heap.size w5.heap.size rfl (Nat.le_refl _)).drew
    have BL : Hid (Below w5.heap.size w5 (w5.alloc (.cells #[] 71)).drew) := ((Below.refl _ w5).alloc (Nat.le_refl _) _).drew
    generalize (w5.alloc (.cells #[] 71)).drew = w6 at *
    refine hK.out _ _ ?hs75 (fun hS2 => ?_)
    case hs75 => exact (Q5.out.below BL.out).2.2.2.1.cell 1 _ rfl
    clear hK K
    try simp only [Act.put, List.setIfInBounds_toArray, List.set_cons_zero, List.set_cons_succ]
    refine wpAnyH_ready (rs := [6]) (by kernel_rfl) (by simp) ?_
    refine AllReadyH.cons rfl (fun K hK => ?_) AllReadyH.nil
    rw [if_pos (by kernel_rfl)]
    refine append_rw _ _ 30 rfl Try.underlying30 Try.infoRec rfl (by decide) (by decide) encW_len oneW' w5.heap.size _ [] xs rfl OW.out pm nx cm rfl hcm.2.2 (HX.out.below BL.out) (by have := HXL.out; have := HNX.out; simp; omega) BL.out.size ?_
    intro v7 w7 ho hgr hbel
    have O7 := hide ho
    replace BL := hide (hbel _ BL.out)
    clear ho hgr hbel
    rw [List.nil_append] at O7
    clear OW
    change K (Act.put _ (some 54) _) _
    refine hK.out _ _ ?hs76 (fun hS3 => ?_)
    case hs76 => exact (Q5.out.below BL.out).2.2.2.1.cell 1 _ rfl
    clear hK K
    try simp only [Act.put, List.setIfInBounds_toArray, List.set_cons_zero, List.set_cons_succ]
    refine wpAnyH_ready (rs := [9]) (by kernel_rfl) (by simp) ?_
    refine AllReadyH.cons rfl (fun K hK => ?_) AllReadyH.nil
    rw [if_pos (by kernel_rfl)]
    refine append_rw _ _ 30 rfl Try.underlying30 Try.infoRec rfl (by decide) (by decide) encW_len oneW' w5.heap.size _ xs ys rfl O7.out p n c rfl hC.2.2 (HY.out.below BL.out) (by have := HXL.out; have := HYL.out; have := HNX.out; omega) BL.out.size ?_
    intro v8 w8 ho hgr hbel
    have O8 := hide ho
    replace BL := hide (hbel _ BL.out)
    obtain ⟨p8, c8, h8, _, _⟩ := ho.open encW_len
    subst h8
    generalize hn8 : (xs ++ ys).length = n8 at *
    clear hn8 ho hgr hbel
    clear O7
    change K (Act.put _ (some 57) _) _
    refine hK.out _ _ ?hs77 (fun hS4 => ?_)
    case hs77 => exact (Q5.out.below BL.out).2.2.2.1.cell 1 _ rfl
    clear hK K
    try simp only [Act.put, List.setIfInBounds_toArray, List.set_cons_zero, List.set_cons_succ]
    refine takeInH 10 58 ?v78 rfl rfl (by kernel_rfl) (by kernel_rfl) (by kernel_rfl) (fun _ _ _ h => h) (by kernel_rfl) hS4 ?hy78 ?_
    case hy78 => (intro W hW; clear hW; go_simp; try rfl)
    simp only [Act.put, List.setIfInBounds_toArray, List.set_cons_zero, List.set_cons_succ]
    refine takeInH 11 59 ?v79 rfl rfl (by kernel_rfl) (by kernel_rfl) (by kernel_rfl) (fun _ _ _ h => h) (by kernel_rfl) hS4 ?hy79 ?_
    case hy79 => (intro W hW; clear hW; go_simp; try rfl)
    simp only [Act.put, List.setIfInBounds_toArray, List.set_cons_zero, List.set_cons_succ]
    refine wpAnyH_ready (rs := [12]) (by kernel_rfl) (by simp) ?_
    refine AllReadyH.cons rfl (fun K hK => ?_) AllReadyH.nil
    have Q8 := hide (Q5.out.below BL.out)
    have b3 := Q8.out.2.2.1.cell 3 _ rfl
    have f3 := Q8.out.2.2.1.free 3
    have Q9 := hide (Q8.out.setg HNG.out 3 (.slice p8 n8 c8))
    go_simp
    refine hK.out _ _ ?hs80 (fun hS5 => ?_)
    case hs80 => exact Q9.out.2.2.2.1.cell 1 _ rfl
    clear hK K
    refine wpAnyH_done (by kernel_rfl) ?_ _
    have O9 := hide (O8.out.set (O8.out.off Q8.out.2.2.1 (by decide)) 3 (.slice p8 n8 c8))
    generalize w8.setCell ⟨gw, 3, none⟩ (.slice p8 n8 c8) = w9 at *
    clear b3 f3
    go_wp2
    go_ret
    exact ⟨.slice p8 n8 c8, ys, Q9.out.dp r1 _, O9.out.mono HSZ.out, HYM.out, HYB.out⟩
set_option maxHeartbeats 8000000 in
theorem do1 {N g jb gw : Nat} {va vb vb2 vm : Value} {d : Dk} {s t wt : Int} (p : Option Addr) (n c : Nat) (l : List Rc) (w : World) (h : PD N g w va vb d) (hs : d.stop = -1) (hj : BJ w jb g s t false) (hNj : N ≤ jb) (h01 : s = 0 ∨ s = 1) (ht0 : 0 ≤ t) (ht1 : t ≤ 1099511627776) (hg : BX w gw (WC g jb vb2 vm wt) 49) (hNg : N ≤ gw) {w0 : World} (hA0 : RC w0 p n l) (hw0 : Below w0.heap.size w0 w) (hN0 : N = w0.heap.size) (hC : CP p n c) (hbig : (bytesRs l).length ≤ 100000000) :
    Calls Try.prog 18 #[.pointer (some ⟨gw, 0, none⟩), .agg #[.int .i64 1, .slice p n c]] w fun e w' => DP N g jb gw va vb w (synJ d s t) (WC g jb vb2 vm wt) ((synJ d s t).1 == 0) e w' := by
  have hA := hA0.bel hw0
  have HN0 := hide hN0
  obtain ⟨r1, d1, s1, t1, HPJ⟩ : ∃ r1 d1 s1 t1, Hid (synJ d s t = (r1, d1, s1, t1)) := ⟨_, _, _, _, rfl⟩
  rw [HPJ.out]
  have HNG := hide hNg
  have HB0 := hide (bel1 w (.cells #[.int .i64 1, .slice p n c] 52))
  have Q0 : Hid (WQ N g jb gw w.heap.size w (w.alloc (.cells #[.int .i64 1, .slice p n c] 52)) va vb va vb d s t (WC g jb vb2 vm wt) #[.int .i64 1, .slice p n c]) := ⟨h.below HB0.out, hj.below HB0.out, hg.below HB0.out, BX.new w _ rfl _ _, Sp.below HB0.out, HB0.out.mono h.le⟩
  have R0 := hide (hA.bel HB0.out)
  have HM : Hid (l.all mayRc = allMay l) := rfl
  have HLN : Hid (l.length = n) := hA.len
  clear h hj hg hNg hA hN0
  go_enter Try.func18, Try.ntmps18
  go_wp2_with fail
  refine (mayRs_any p n c l _ R0.out).mono ?_
  rw [HM.out]
  rintro e u ⟨rfl, hb⟩
  replace Q0 := hide (Q0.out.below hb)
  replace R0 := hide (R0.out.bel hb)
  generalize w.alloc (.cells #[.int .i64 1, .slice p n c] 52) = wA at *
  have a0 := Q0.out.2.2.2.1.cell 0 _ rfl
  have a1 := Q0.out.2.2.1.cell 1 _ rfl
  generalize allMay l = bm at *
  go_wp2_with fail
  refine (Sync7_any _ Q0.out.1 hs Q0.out.2.1 hNj h01 ht0).mono ?_
  intro e w5 hp
  obtain ⟨va5, vb5, q5, rfl, k5⟩ := Q0.out.act hp
  rw [HPJ.out] at q5 ⊢
  simp only [] at q5 ⊢
  have Q5 := hide q5
  clear hp q5 k5 a0 a1
  go_wp2
  go_ret
  exact Q5.out.dp r1 _
set_option maxHeartbeats 8000000 in
theorem do2 {N g jb gw : Nat} {va vb vb2 vm : Value} {d : Dk} {s t wt : Int} (p : Option Addr) (n c : Nat) (l : List Rc) (w : World) (h : PD N g w va vb d) (hs : d.stop = -1) (hj : BJ w jb g s t false) (hNj : N ≤ jb) (h01 : s = 0 ∨ s = 1) (ht0 : 0 ≤ t) (ht1 : t ≤ 1099511627776) (hg : BX w gw (WC g jb vb2 vm wt) 49) (hNg : N ≤ gw) {w0 : World} (hA0 : RC w0 p n l) (hw0 : Below w0.heap.size w0 w) (hN0 : N = w0.heap.size) (hC : CP p n c) (hbig : (bytesRs l).length ≤ 100000000) (hm : allMay l = true) (hwt0 : 0 ≤ wt) (hwt1 : wt ≤ 1000000) :
    Calls Try.prog 18 #[.pointer (some ⟨gw, 0, none⟩), .agg #[.int .i64 2, .slice p n c]] w fun e w' => DP N g jb gw va vb w (renJ d s t l) (WC g jb (.slice p n c) (.slice none 0 0) (wt + 1)) ((renJ d s t l).1 == 0) e w' := by
  have hA := hA0.bel hw0
  have HN0 := hide hN0
  obtain ⟨r1, d1, s1, t1, HPJ⟩ : ∃ r1 d1 s1 t1, Hid (renJ d s t l = (r1, d1, s1, t1)) := ⟨_, _, _, _, rfl⟩
  rw [HPJ.out]
  have HNG := hide hNg
  have HB0 := hide (bel1 w (.cells #[.int .i64 2, .slice p n c] 52))
  have Q0 : Hid (WQ N g jb gw w.heap.size w (w.alloc (.cells #[.int .i64 2, .slice p n c] 52)) va vb va vb d s t (WC g jb vb2 vm wt) #[.int .i64 2, .slice p n c]) := ⟨h.below HB0.out, hj.below HB0.out, hg.below HB0.out, BX.new w _ rfl _ _, Sp.below HB0.out, HB0.out.mono h.le⟩
  have R0 := hide (hA.bel HB0.out)
  have HM : Hid (l.all mayRc = allMay l) := rfl
  have HLN : Hid (l.length = n) := hA.len
  clear h hj hg hNg hA hN0
  go_enter Try.func18, Try.ntmps18
  go_wp2_with fail
  refine (mayRs_any p n c l _ R0.out).mono ?_
  rw [HM.out]
  rintro e u ⟨rfl, hb⟩
  replace Q0 := hide (Q0.out.below hb)
  replace R0 := hide (R0.out.bel hb)
  generalize w.alloc (.cells #[.int .i64 2, .slice p n c] 52) = wA at *
  have a0 := Q0.out.2.2.2.1.cell 0 _ rfl
  rw [hm]
  go_upto_region 15 with fail
  refine wp_region_held_drew (S := fun W => W.cell? ⟨gw, 1, none⟩ = some (.pointer (some ⟨jb, 0, none⟩)) ∧ W.cell? ⟨w.heap.size, 1, none⟩ = some (.slice p n c)) (by kernel_rfl) (⟨Q0.out.2.2.1.cell 1 _ rfl, Q0.out.2.2.2.1.cell 1 _ rfl⟩) (fun hS0 => ?_)
  refine takeInH 0 72 ?v81 rfl rfl (by kernel_rfl) (by kernel_rfl) (by kernel_rfl) (fun _ _ _ h => h) (by kernel_rfl) hS0 ?hy81 ?_
  case hy81 => (intro W hW; clear hW; go_simp; try rfl)
  simp only [Act.put, List.setIfInBounds_toArray, List.set_cons_zero, List.set_cons_succ]
  refine takeInH 1 73 ?v82 rfl rfl (by kernel_rfl) (by kernel_rfl) (by kernel_rfl) (fun _ _ _ h => h) (by kernel_rfl) hS0 ?hy82 ?_
  case hy82 => (intro W hW; clear hW; go_simp; try rfl)
  simp only [Act.put, List.setIfInBounds_toArray, List.set_cons_zero, List.set_cons_succ]
  refine takeInH 2 74 ?v83 rfl rfl (by kernel_rfl) (by kernel_rfl) (by kernel_rfl) (fun _ _ _ h => h) (by kernel_rfl) hS0 ?hy83 ?_
  case hy83 => (intro W hW; clear hW; go_simp; try rfl)
  simp only [Act.put, List.setIfInBounds_toArray, List.set_cons_zero, List.set_cons_succ]
  refine takeInH 3 75 ?v84 rfl rfl (by kernel_rfl) (by kernel_rfl) (by kernel_rfl) (fun _ _ _ h => h) (by kernel_rfl) hS0 ?hy84 ?_
  case hy84 => (intro W hW; have e0 := hW.1; have e1 := hW.2; clear hW; go_simp; try rfl)
  simp only [Act.put, List.setIfInBounds_toArray, List.set_cons_zero, List.set_cons_succ]
  refine takeInH 4 76 ?v85 rfl rfl (by kernel_rfl) (by kernel_rfl) (by kernel_rfl) (fun _ _ _ h => h) (by kernel_rfl) hS0 ?hy85 ?_
  case hy85 => (intro W hW; clear hW; go_simp; try rfl)
  simp only [Act.put, List.setIfInBounds_toArray, List.set_cons_zero, List.set_cons_succ]
  refine takeInH 5 77 ?v86 rfl rfl (by kernel_rfl) (by kernel_rfl) (by kernel_rfl) (fun _ _ _ h => h) (by kernel_rfl) hS0 ?hy86 ?_
  case hy86 => (intro W hW; have e0 := hW.1; have e1 := hW.2; clear hW; go_simp; try rfl)
  simp only [Act.put, List.setIfInBounds_toArray, List.set_cons_zero, List.set_cons_succ]
  refine wpAnyH_ready (rs := [6]) (by kernel_rfl) (by simp) ?_
  refine AllReadyH.cons rfl (fun K hK => ?_) AllReadyH.nil
  go_simp
  refine (Renew_any p n c l _ Q0.out.drew.1 hs Q0.out.drew.2.1 hNj h01 ht0 ht1 R0.out.drew hC hbig).mono ?_
  intro e w5 hp
  obtain ⟨va5, vb5, q5, rfl, k5⟩ := Q0.out.drew.act hp
  have Q5 := hide q5
  have K5 := hide k5
  have B5 := hide hp
  clear hp q5 k5
  refine hK.out _ _ ?hs87 (fun hS1 => ?_)
  case hs87 => exact ⟨Q5.out.2.2.1.cell 1 _ rfl, Q5.out.2.2.2.1.cell 1 _ rfl⟩
  clear hK K
  try simp only [Act.put, List.setIfInBounds_toArray, List.set_cons_zero, List.set_cons_succ]
  refine takeInH 7 7 ?v88 rfl rfl (by kernel_rfl) (by kernel_rfl) (by kernel_rfl) (fun _ _ _ h => h) (by kernel_rfl) hS1 ?hy88 ?_
  case hy88 => (intro W hW; clear hW; go_simp; try rfl)
  simp only [Act.put, List.setIfInBounds_toArray, List.set_cons_zero, List.set_cons_succ]
  refine wpAnyH_done (by kernel_rfl) ?_ _
  clear a0
  rw [HPJ.out] at Q5 ⊢
  simp only [] at Q5 ⊢
  have b2 := Q5.out.2.2.1.cell 2 _ rfl
  have b3 := Q5.out.2.2.1.cell 3 _ rfl
  have b4 := Q5.out.2.2.1.cell 4 _ rfl
  have f2 := Q5.out.2.2.1.free 2
  have f3 := Q5.out.2.2.1.free 3
  have f4 := Q5.out.2.2.1.free 4
  have c1 := Q5.out.2.2.2.1.cell 1 _ rfl
  have Q6 := hide ((Q5.out.setg HNG.out 2 (.slice p n c)).setg HNG.out 3 (.slice none 0 0))
  clear hm
  go_upto_region 19 with fail
  generalize (w5.setCell ⟨gw, 2, none⟩ (.slice p n c)).setCell ⟨gw, 3, none⟩ (.slice none 0 0) = w6 at *
  clear b2 b3 b4 f2 f3 f4 c1
  have b4 := Q6.out.2.2.1.cell 4 _ rfl
  have f4 := Q6.out.2.2.1.free 4
  have Q7 := hide (Q6.out.setg HNG.out 4 (.int .i64 (wt + 1)))
  go_upto_region 20 with fail
  generalize w6.setCell ⟨gw, 4, none⟩ (.int .i64 (wt + 1)) = w7 at *
  clear b4 f4
  go_wp2
  go_ret
  exact Q7.out.dp r1 _
set_option maxHeartbeats 8000000 in
theorem doX {N g jb gw : Nat} {va vb vb2 vm : Value} {d : Dk} {s t wt : Int} (p : Option Addr) (n c : Nat) (l : List Rc) (w : World) (h : PD N g w va vb d) (hs : d.stop = -1) (hj : BJ w jb g s t false) (hNj : N ≤ jb) (h01 : s = 0 ∨ s = 1) (ht0 : 0 ≤ t) (ht1 : t ≤ 1099511627776) (hg : BX w gw (WC g jb vb2 vm wt) 49) (hNg : N ≤ gw) {w0 : World} (hA0 : RC w0 p n l) (hw0 : Below w0.heap.size w0 w) (hN0 : N = w0.heap.size) (hC : CP p n c) (hbig : (bytesRs l).length ≤ 100000000) (o : Int) (hoo : o ≠ 0 ∧ o ≠ 1 ∧ o ≠ 2 ∧ o ≠ 3) :
    Calls Try.prog 18 #[.pointer (some ⟨gw, 0, none⟩), .agg #[.int .i64 o, .slice p n c]] w fun e w' => DP N g jb gw va vb w ((0, d, s, t)) (WC g jb vb2 vm wt) true e w' := by
  have hA := hA0.bel hw0
  have HN0 := hide hN0
  have HNG := hide hNg
  have HB0 := hide (bel1 w (.cells #[.int .i64 o, .slice p n c] 52))
  have Q0 : Hid (WQ N g jb gw w.heap.size w (w.alloc (.cells #[.int .i64 o, .slice p n c] 52)) va vb va vb d s t (WC g jb vb2 vm wt) #[.int .i64 o, .slice p n c]) := ⟨h.below HB0.out, hj.below HB0.out, hg.below HB0.out, BX.new w _ rfl _ _, Sp.below HB0.out, HB0.out.mono h.le⟩
  have R0 := hide (hA.bel HB0.out)
  have HM : Hid (l.all mayRc = allMay l) := rfl
  have HLN : Hid (l.length = n) := hA.len
  clear h hj hg hNg hA hN0
  go_enter Try.func18, Try.ntmps18
  go_wp2_with fail
  refine (mayRs_any p n c l _ R0.out).mono ?_
  rw [HM.out]
  rintro e u ⟨rfl, hb⟩
  replace Q0 := hide (Q0.out.below hb)
  replace R0 := hide (R0.out.bel hb)
  generalize w.alloc (.cells #[.int .i64 o, .slice p n c] 52) = wA at *
  have a0 := Q0.out.2.2.2.1.cell 0 _ rfl
  have o0 : (o == 0) = false := by simpa using hoo.1
  have o1 : (o == 1) = false := by simpa using hoo.2.1
  have o2 : (o == 2) = false := by simpa using hoo.2.2.1
  have o3 : (o == 3) = false := by simpa using hoo.2.2.2
  generalize allMay l = bm at *
  clear hoo
  go_wp2
  go_ret
  exact Q0.out.dp 0 true
end Go.Proofs.Ytofalfaiamaapaa
