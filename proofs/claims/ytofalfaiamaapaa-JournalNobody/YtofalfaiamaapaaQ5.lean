/- A journal is renewed (layer 7). -/
import Derived.Test.YtofalfaiamaapaaQ4
namespace Go.Proofs.Ytofalfaiamaapaa
open Go.RowKit
set_option linter.unusedVariables false
theorem Own.offt {N : Nat} {w : World} {v : Value} {l : List Int} {g : Nat} {C : Array Value} {t : TypeId} (h : Own N w v l) (hx : BX w g C t) (ht : 5 ≠ t) : v.ownBlock ≠ some g := (Own.rows.1 h).off hx ht
/-- A block of another type is none of a disk's. -/
theorem PD.notx {N g : Nat} {w : World} {va vb : Value} {d : Dk} (h : PD N g w va vb d) {k : Nat} {C : Array Value} {t : TypeId} (hx : BX w k C t) (h1 : 5 ≠ t) (h2 : 69 ≠ t) : ¬ Xs g va vb k := by
  rintro (rfl | q | q)
  · have e := h.1.symm.trans hx
    injection e with e
    injection e with _ e
    exact h2 e
  · exact h.2.1.offt hx h1 q
  · exact h.2.2.1.offt hx h1 q
theorem Dk.tick_off {d : Dk} (h : d.stop = -1) : d.tick = d := Dk.tick_neg (by omega)
theorem pact_clr {d : Dk} (hs : d.stop = -1) {o : Int} (ho : o = 0 ∨ o = 1) : d.pact 1 o [] = (d.set o ⟨[], 0⟩, 0) := by
  unfold Dk.pact
  rw [if_neg (by omega), if_neg (by omega), if_neg (fun q => absurd q.1 (by decide))]
  have e : (d.get o).act 1 [] = ⟨[], 0⟩ := rfl
  rw [e, Dk.tick_off (by rw [Dk.set_stop]; exact hs)]
theorem pact_app {d : Dk} (hs : d.stop = -1) {o : Int} (ho : o = 0 ∨ o = 1) (m : List Int) (hl : ¬ (m.length : Int) > d.left) : d.pact 0 o m = (d.set o ⟨(d.get o).l ++ m, (d.get o).s⟩, 0) := by
  unfold Dk.pact
  rw [if_neg (by omega), if_neg (by omega), if_neg (fun q => hl q.2)]
  have e : (d.get o).act 0 m = ⟨(d.get o).l ++ m, (d.get o).s⟩ := rfl
  rw [e, Dk.tick_off (by rw [Dk.set_stop]; exact hs)]
theorem pact_full {d : Dk} (hs : d.stop = -1) {o : Int} (ho : o = 0 ∨ o = 1) (m : List Int) (hl : (m.length : Int) > d.left) : d.pact 0 o m = (d, 6) := by
  unfold Dk.pact
  rw [if_neg (by omega), if_neg (by omega), if_pos ⟨rfl, hl⟩]
theorem pact_syn {d : Dk} (hs : d.stop = -1) {o : Int} (ho : o = 0 ∨ o = 1) : d.pact 2 o [] = (d.set o ⟨(d.get o).l, (d.get o).l.length⟩, 0) := by
  unfold Dk.pact
  rw [if_neg (by omega), if_neg (by omega), if_neg (fun q => absurd q.1 (by decide))]
  have e : (d.get o).act 2 [] = ⟨(d.get o).l, (d.get o).l.length⟩ := rfl
  rw [e, Dk.tick_off (by rw [Dk.set_stop]; exact hs)]
theorem Dk.get_set (d : Dk) (o : Int) (x : Sl) : (d.set o x).get o = x := by unfold Dk.set Dk.get; split <;> rfl
theorem Dk.set_set (d : Dk) (o : Int) (x y : Sl) : (d.set o x).set o y = d.set o y := by
  by_cases h : o = 0
  · simp [Dk.set, h]
  · simp [Dk.set, h]
/-- No panic comes. -/
def NoP (Q : Exit → Act → World → Prop) : Exit → Act → World → Prop
  | .panic _, _, _ => False
  | e, a, w => Q e a w
theorem wp_nop {P : Program} {c : Code} {Q : Exit → Act → World → Prop} {a : Act} {w : World} (h : c.wp P (NoP Q) a w) : c.wp P Q a w :=
  wp_mono h fun e a w h => by
    cases e
    case panic => exact h.elim
    all_goals exact h
/-- The bytes of a slot that is renewed. -/
def frame7 (t : Int) (m : List Int) : List Int := record 1 (num t) ++ m ++ record 2 []
theorem frame7_by (t : Int) {m : List Int} (h : By m) : By (frame7 t m) := ((record_by (by decide) (by decide) (num_by _)).append h).append (record_by (by decide) (by decide) By.nil)
theorem framed_as (t : Int) (a : Option Addr) (n cap : Nat) (l : List Int) (w : World) (h0 : 0 ≤ t) (h1 : t ≤ 1099511627776) (hA : BS w a n l) (hC : CP a n cap) (hn : n ≤ 100000000) : Calls Try.prog 57 #[.int .i64 t, .slice a n cap] w fun e w' => ∃ p n' c, e = .returned (.slice p n' c) ∧ BS w' p n' (frame7 t l) ∧ CP p n' c ∧ Below w.heap.size w w' := by
  refine (framed_any t a n cap l w h0 h1 hA hC hn).mono ?_
  rintro e w1 ⟨v, rfl, ho, hb⟩
  have ho' : Own w.heap.size w1 v (frame7 t l) := ho
  obtain ⟨p, c, rfl, q1, q2⟩ := ho'.open (frame7_by t hA.2.2.1)
  exact ⟨p, _, c, rfl, q1, q2, hb⟩
/-- The blocks of a journal, and of its disk. -/
def XJ (g : Nat) (va vb : Value) (jb : Nat) (b : Nat) : Prop := Xs g va vb b ∨ b = jb
theorem Stp.xj {g : Nat} {va vb va' vb' : Value} {w w' : World} (h : Stp g va vb va' vb' w w') (jb : Nat) : Sp (XJ g va vb jb) (XJ g va' vb' jb) w w' := Sp.add h.sp (fun b => b = jb)
theorem BSX.bel {X : Nat → Prop} {w w' : World} {p : Option Addr} {n : Nat} {l : List Int} (h : BSX X w p n l) (hb : Below w.heap.size w w') : BSX X w' p n l := ⟨h.1.below hb, h.2⟩
theorem Sp.setNew {X Y : Nat → Prop} {w0 w : World} (h : Sp X Y w0 w) {b : Nat} (hb : w0.heap.size ≤ b) (i : Nat) (x : Value) : Sp X Y w0 (w.setCell ⟨b, i, none⟩ x) := by
  refine ⟨fun k hk hn => ?_, h.2.1, by simp [World.setCell]; exact h.2.2⟩
  have hne : b ≠ k := by omega
  rw [← h.1 k hk hn]
  simp [World.setCell, Array.getElem?_modify, hne]
theorem Sp.setOld {X Y : Nat → Prop} {w0 w : World} (h : Sp X Y w0 w) {b : Nat} (hb : X b) (i : Nat) (x : Value) : Sp X Y w0 (w.setCell ⟨b, i, none⟩ x) := by
  refine ⟨fun k hk hn => ?_, h.2.1, by simp [World.setCell]; exact h.2.2⟩
  have hne : b ≠ k := fun e => hn (e ▸ hb)
  rw [← h.1 k hk hn]
  simp [World.setCell, Array.getElem?_modify, hne]
/-- What stands in a renewal: the two variables' blocks, the journal's, the disk. -/
def RN (N g jb c2 : Nat) (w0 w : World) (va vb : Value) (d : Dk) (s t er : Int) (va0 vb0 : Value) : Prop :=
  PD N g w va vb d ∧ BJ w jb g s t false ∧ BX w c2 #[.pointer (some ⟨jb, 0, none⟩)] 34 ∧ BX w (c2 + 1) #[.int .i64 er] 25 ∧ Sp (XJ g va0 vb0 jb) (XJ g va vb jb) w0 w ∧ Below N w0 w ∧ w0.heap.size ≤ c2
theorem RN.act {N g jb c2 : Nat} {w0 w w' : World} {va vb va' vb' va0 vb0 : Value} {d d' : Dk} {s t er : Int} (h : RN N g jb c2 w0 w va vb d s t er va0 vb0) (hp : PD N g w' va' vb' d') (hs : Stp g va vb va' vb' w w') (hb : Below N w w') : RN N g jb c2 w0 w' va' vb' d' s t er va0 vb0 :=
  ⟨hp, h.2.1.stp hs (h.1.notx h.2.1 (by decide) (by decide)), h.2.2.1.stp hs (h.1.notx h.2.2.1 (by decide) (by decide)), h.2.2.2.1.stp hs (h.1.notx h.2.2.2.1 (by decide) (by decide)), h.2.2.2.2.1.trans (hs.xj jb), h.2.2.2.2.2.1.trans hb, h.2.2.2.2.2.2⟩
theorem RN.below {N g jb c2 : Nat} {w0 w w' : World} {va vb va0 vb0 : Value} {d : Dk} {s t er : Int} (h : RN N g jb c2 w0 w va vb d s t er va0 vb0) (hb : Below w.heap.size w w') : RN N g jb c2 w0 w' va vb d s t er va0 vb0 :=
  h.act (h.1.below hb) (Stp.below hb) (hb.mono (Nat.le_trans h.1.2.2.2.2.1 (Nat.le_of_lt h.1.1.size)))
theorem RN.seten {N g jb c2 : Nat} {w0 w : World} {va vb va0 vb0 : Value} {d : Dk} {s t er : Int} (h : RN N g jb c2 w0 w va vb d s t er va0 vb0) (hN : N ≤ w0.heap.size) (x : Int) : RN N g jb c2 w0 (w.setCell ⟨c2 + 1, 0, none⟩ (.int .i64 x)) va vb d s t x va0 vb0 := by
  obtain ⟨h1, h2, h3, h4, h5, h6, h7⟩ := h
  have n1 : ¬ Xs g va vb (c2 + 1) := h1.notx h4 (by decide) (by decide)
  have e1 : c2 + 1 ≠ jb := by
    rintro rfl
    have e := h2.symm.trans h4
    injection e with e
    injection e with _ e
    exact absurd e (by decide)
  exact ⟨⟨h1.1.other (fun e => n1 (.inl e)) _ _, h1.2.1.setc (fun e => n1 (.inr (.inl e))) _ _, h1.2.2.1.setc (fun e => n1 (.inr (.inr e))) _ _, h1.2.2.2⟩, h2.other e1 _ _, h3.other (by omega) _ _, h4.set 0 _, h5.setNew (by omega) _ _, h6.setCell (by simp only []; omega) _, h7⟩
theorem PD.setc {N g : Nat} {w : World} {va vb : Value} {d : Dk} (h : PD N g w va vb d) {k : Nat} (hn : ¬ Xs g va vb k) (i : Nat) (x : Value) : PD N g (w.setCell ⟨k, i, none⟩ x) va vb d :=
  ⟨h.1.other (fun e => hn (.inl e)) _ _, h.2.1.setc (fun e => hn (.inr (.inl e))) _ _, h.2.2.1.setc (fun e => hn (.inr (.inr e))) _ _, h.2.2.2⟩
/-- The journal has another slot and turn. -/
theorem RN.setj {N g jb c2 : Nat} {w0 w : World} {va vb va0 vb0 : Value} {d : Dk} {s t er : Int} (h : RN N g jb c2 w0 w va vb d s t er va0 vb0) (hN : N ≤ jb) (s' t' : Int) : RN N g jb c2 w0 ((w.setCell ⟨jb, 1, none⟩ (.int .i64 s')).setCell ⟨jb, 2, none⟩ (.int .i64 t')) va vb d s' t' er va0 vb0 := by
  obtain ⟨h1, h2, h3, h4, h5, h6, h7⟩ := h
  have n1 : ¬ Xs g va vb jb := h1.notx h2 (by decide) (by decide)
  have e1 : jb ≠ c2 := by
    rintro rfl
    have e := h2.symm.trans h3
    injection e with e
    injection e with _ e
    exact absurd e (by decide)
  have e2 : jb ≠ c2 + 1 := by
    rintro rfl
    have e := h2.symm.trans h4
    injection e with e
    injection e with _ e
    exact absurd e (by decide)
  exact ⟨(h1.setc n1 _ _).setc n1 _ _, (h2.set 1 _).set 2 _, (h3.other e1 _ _).other e1 _ _, (h4.other e2 _ _).other e2 _ _, (h5.setOld (.inr rfl) _ _).setOld (.inr rfl) _ _, (h6.setCell (by simp only []; exact hN) _).setCell (by simp only []; exact hN) _, h7⟩
theorem RN.drew {N g jb c2 : Nat} {w0 w : World} {va vb va0 vb0 : Value} {d : Dk} {s t er : Int} (h : RN N g jb c2 w0 w va vb d s t er va0 vb0) : RN N g jb c2 w0 w.drew va vb d s t er va0 vb0 := h.below (Below.refl _ _).drew
/-- What stands behind the renewal: whether it is broken is told. -/
theorem RN.told {N g jb c2 : Nat} {w0 w : World} {va vb va0 vb0 : Value} {d : Dk} {s t er : Int} (h : RN N g jb c2 w0 w va vb d s t er va0 vb0) (hN : N ≤ jb) : RN N g jb c2 w0 (w.setCell ⟨jb, 3, none⟩ (.bool false)).drew va vb d s t er va0 vb0 := by
  obtain ⟨h1, h2, h3, h4, h5, h6, h7⟩ := h
  have n1 : ¬ Xs g va vb jb := h1.notx h2 (by decide) (by decide)
  have e1 : jb ≠ c2 := by
    rintro rfl
    have e := h2.symm.trans h3
    injection e with e
    injection e with _ e
    exact absurd e (by decide)
  have e2 : jb ≠ c2 + 1 := by
    rintro rfl
    have e := h2.symm.trans h4
    injection e with e
    injection e with _ e
    exact absurd e (by decide)
  exact RN.drew ⟨h1.setc n1 _ _, h2.set 3 _, h3.other e1 _ _, h4.other e2 _ _, h5.setOld (.inr rfl) _ _, h6.setCell (by simp only []; exact hN) _, h7⟩
theorem RN.ne2 {N g jb c2 : Nat} {w0 w : World} {va vb va0 vb0 : Value} {d : Dk} {s t er : Int} (h : RN N g jb c2 w0 w va vb d s t er va0 vb0) : jb ≠ c2 := by
  obtain ⟨h1, h2, h3, h4, h5, h6, h7⟩ := h
  rintro rfl
  have e := h2.symm.trans h3
  injection e with e
  injection e with _ e
  exact absurd e (by decide)
set_option maxHeartbeats 4000000 in
theorem renew_0ok {N g jb : Nat} {va vb : Value} {d : Dk} {t : Int} (p : Option Addr) (n c : Nat) (m : List Int) (w : World) (h : PD N g w va vb d) (hs : d.stop = -1) (hj : BJ w jb g 0 t false) (hN : N ≤ jb) (ht0 : 0 ≤ t) (ht1 : t < 1099511627776) (hB : BSX (Xs g va vb) w p n m) (hC : CP p n c) (hn : n ≤ 100000000) (hl : ¬ ((frame7 (t + 1) m).length : Int) > (d.set 1 ⟨[], 0⟩).left) :
    Calls Try.prog 44 #[.pointer (some ⟨jb, 0, none⟩), .slice p n c] w fun e w' => ∃ va' vb', e = .returned (.int .i64 0) ∧ PD N g w' va' vb' (d.set 1 ⟨frame7 (t + 1) m, (frame7 (t + 1) m).length⟩) ∧ BJ w' jb g 1 (t + 1) false ∧ Sp (XJ g va vb jb) (XJ g va' vb' jb) w w' ∧ Below N w w' := by
  have hmf : ∀ (fn : Fn) (first cap : Array Value) (w : World), (Instr.makeFunc fn first cap).run Try.prog w = .ok (.func fn first cap) w := fun _ _ _ _ => rfl
  have HN0 : Hid (N ≤ w.heap.size) := Nat.le_trans h.2.2.2.2.1 (Nat.le_of_lt h.1.size)
  have HNJ := hide hN
  have HC := hide hC
  have HFB : Hid (By (frame7 (t + 1) m)) := ((record_by (by decide) (by decide) (num_by _)).append hB.1.2.2.1).append (record_by (by decide) (by decide) By.nil)
  have hA : BX (w.alloc (.cells #[.pointer (some ⟨jb, 0, none⟩)] 34)) w.heap.size #[.pointer (some ⟨jb, 0, none⟩)] 34 := BX.new w _ rfl _ _
  have hbe : Below w.heap.size w ((w.alloc (.cells #[.pointer (some ⟨jb, 0, none⟩)] 34)).alloc (.cells #[.int .i64 0] 25)) := bel_next (bel1 _ _) (bel1 _ _)
  have R0 : Hid (RN N g jb w.heap.size w ((w.alloc (.cells #[.pointer (some ⟨jb, 0, none⟩)] 34)).alloc (.cells #[.int .i64 0] 25)) va vb d 0 t 0 va vb) :=
    ⟨h.below hbe, hj.below hbe, hA.alloc _, BX.new _ _ (by simp) _ _, Sp.below hbe, hbe.mono HN0.out, Nat.le_refl _⟩
  have BS0 := hide (hB.bel hbe)
  have HCL : Hid (d.pact 1 1 [] = (d.set 1 ⟨[], 0⟩, 0)) := pact_clr hs (by decide)
  have HAPP : Hid ((d.set 1 ⟨[], 0⟩).pact 0 1 (frame7 (t + 1) m) = (d.set 1 ⟨frame7 (t + 1) m, 0⟩, 0)) := by
    unfold Hid
    rw [pact_app (by rw [Dk.set_stop]; exact hs) (by decide) _ hl, Dk.get_set, Dk.set_set]; rfl
  have HSY : Hid ((d.set 1 ⟨frame7 (t + 1) m, 0⟩).pact 2 1 [] = (d.set 1 ⟨frame7 (t + 1) m, (frame7 (t + 1) m).length⟩, 0)) := by
    unfold Hid
    rw [pact_syn (by rw [Dk.set_stop]; exact hs) (by decide), Dk.get_set, Dk.set_set]
  clear h hs hj hN hB hC hA hbe hl
  go_enter_defers Try.func44, Try.ntmps44
  go_upto_region 2 with fail
  generalize (w.alloc (.cells #[.pointer (some ⟨jb, 0, none⟩)] 34)).alloc (.cells #[.int .i64 0] 25) = w2 at *
  have a0 := R0.out.2.2.1.cell 0 _ rfl
  have a1 := R0.out.2.1.cell 1 _ rfl
  have a2 := R0.out.2.1.cell 2 _ rfl
  go_region
  have R2 := hide R0.out.drew
  have BS2 := hide (BS0.out.bel (Below.refl _ _).drew)
  clear a0 a1 a2 R0 BS0
  generalize w2.drew = w3 at *
  have a0 := R2.out.2.2.1.cell 0 _ rfl
  have a1 := R2.out.2.1.cell 0 _ rfl
  go_wp2_with fail
  refine (Clear_any 1 _ R2.out.1).mono ?_
  rw [HCL.out]
  rintro e w4' ⟨va4, vb4, rfl, hp, hst, hbl⟩
  have R3 := hide (R2.out.act hp hst hbl)
  have BS3' := hide (BSX.stp BS2.out hst)
  have a4 := R3.out.2.2.2.1.cell 0 _ rfl
  have f4 := R3.out.2.2.2.1.free 0
  have R4 := hide (R3.out.seten HN0.out 0)
  have BS3 : Hid (BSX (Xs g va4 vb4) (w4'.setCell ⟨w.heap.size + 1, 0, none⟩ (.int .i64 0)) p n m) := ⟨BS3'.out.1.kp ((KP.refl _ _).set 0 _) R3.out.2.2.2.1 (NoB.mk [.int .i64 0] (by simp)), BS3'.out.2⟩
  clear hp hst hbl R2 R3 BS2 a0 a1 BS3'
  go_upto_region 6 with fail
  generalize w4'.setCell ⟨w.heap.size + 1, 0, none⟩ (.int .i64 0) = w4 at *
  clear a4 f4
  refine wp_nop ?_
  refine wp_region_held_drew (S := fun W => W.cell? ⟨w.heap.size, 0, none⟩ = some (.pointer (some ⟨jb, 0, none⟩)) ∧ W.cell? ⟨jb, 0, none⟩ = some (.pointer (some ⟨g, 0, none⟩))) (by kernel_rfl) (⟨R4.out.2.2.1.cell 0 _ rfl, R4.out.2.1.cell 0 _ rfl⟩) (fun hS0 => ?_)
  refine takeInH 0 27 ?v1 rfl rfl (by kernel_rfl) (by kernel_rfl) (by kernel_rfl) (fun _ _ _ h => h) (by kernel_rfl) hS0 ?hy1 ?_
  case hy1 => (intro W hW; have e0 := hW.1; have e1 := hW.2; clear hW; go_simp; try rfl)
  simp only [Act.put, List.setIfInBounds_toArray, List.set_cons_zero, List.set_cons_succ]
  refine takeInH 1 28 ?v2 rfl rfl (by kernel_rfl) (by kernel_rfl) (by kernel_rfl) (fun _ _ _ h => h) (by kernel_rfl) hS0 ?hy2 ?_
  case hy2 => (intro W hW; clear hW; go_simp; try rfl)
  simp only [Act.put, List.setIfInBounds_toArray, List.set_cons_zero, List.set_cons_succ]
  refine takeInH 2 29 ?v3 rfl rfl (by kernel_rfl) (by kernel_rfl) (by kernel_rfl) (fun _ _ _ h => h) (by kernel_rfl) hS0 ?hy3 ?_
  case hy3 => (intro W hW; clear hW; go_simp; try rfl)
  simp only [Act.put, List.setIfInBounds_toArray, List.set_cons_zero, List.set_cons_succ]
  refine takeInH 3 30 ?v4 rfl rfl (by kernel_rfl) (by kernel_rfl) (by kernel_rfl) (fun _ _ _ h => h) (by kernel_rfl) hS0 ?hy4 ?_
  case hy4 => (intro W hW; have e0 := hW.1; have e1 := hW.2; clear hW; go_simp; try rfl)
  simp only [Act.put, List.setIfInBounds_toArray, List.set_cons_zero, List.set_cons_succ]
  refine takeInH 4 31 ?v5 rfl rfl (by kernel_rfl) (by kernel_rfl) (by kernel_rfl) (fun _ _ _ h => h) (by kernel_rfl) hS0 ?hy5 ?_
  case hy5 => (intro W hW; clear hW; go_simp; try rfl)
  simp only [Act.put, List.setIfInBounds_toArray, List.set_cons_zero, List.set_cons_succ]
  refine takeInH 5 32 ?v6 rfl rfl (by kernel_rfl) (by kernel_rfl) (by kernel_rfl) (fun _ _ _ h => h) (by kernel_rfl) hS0 ?hy6 ?_
  case hy6 => (intro W hW; clear hW; go_simp; try rfl)
  simp only [Act.put, List.setIfInBounds_toArray, List.set_cons_zero, List.set_cons_succ]
  refine takeInH 6 33 ?v7 rfl rfl (by kernel_rfl) (by kernel_rfl) (by kernel_rfl) (fun _ _ _ h => h) (by kernel_rfl) hS0 ?hy7 ?_
  case hy7 => (intro W hW; clear hW; go_simp; try rfl)
  simp only [Act.put, List.setIfInBounds_toArray, List.set_cons_zero, List.set_cons_succ]
  refine wpAnyH_ready (rs := [7]) (by kernel_rfl) (by simp) ?_
  refine AllReadyH.cons rfl (fun K hK => ?_) AllReadyH.nil
  go_simp
  refine (framed_as (t + 1) p n c m _ (by omega) (by omega) (BS3.out.1.below (Below.refl _ _).drew) HC.out hn).mono ?_
  rintro e w5 ⟨p5, n5, c5, rfl, hb5, hc5, hb⟩
  have R5 := hide (R4.out.drew.below hb)
  have B5 := hide hb5
  have C5 := hide hc5
  clear hb hb5 hc5
  refine hK.out _ _ ?hs8 (fun hS1 => ?_)
  case hs8 => exact ⟨R5.out.2.2.1.cell 0 _ rfl, R5.out.2.1.cell 0 _ rfl⟩
  clear hK K
  try simp only [Act.put, List.setIfInBounds_toArray, List.set_cons_zero, List.set_cons_succ]
  refine wpAnyH_ready (rs := [8]) (by kernel_rfl) (by simp) ?_
  refine AllReadyH.cons rfl (fun K hK => ?_) AllReadyH.nil
  go_simp
  refine (Append_any 1 p5 n5 c5 _ _ R5.out.1 B5.out C5.out).mono ?_
  rw [HAPP.out]
  rintro e w6 ⟨va6, vb6, rfl, hp, hst, hbl⟩
  have R6 := hide (R5.out.act hp hst hbl)
  clear hp hst hbl R5 B5 C5
  refine hK.out _ _ ?hs9 (fun hS2 => ?_)
  case hs9 => exact ⟨R6.out.2.2.1.cell 0 _ rfl, R6.out.2.1.cell 0 _ rfl⟩
  clear hK K
  refine wpAnyH_ready (rs := [9]) (by kernel_rfl) (by simp) ?_
  refine AllReadyH.cons rfl (fun K hK => ?_) AllReadyH.nil
  have q6 := R6.out.2.2.2.1.cell 0 _ rfl
  have q7 := R6.out.2.2.2.1.free 0
  have R7 := hide (R6.out.seten HN0.out 0)
  go_simp
  refine hK.out _ _ ?hs10 (fun hS3 => ?_)
  case hs10 => exact ⟨R7.out.2.2.1.cell 0 _ rfl, R7.out.2.1.cell 0 _ rfl⟩
  clear hK K
  refine wpAnyH_done (by kernel_rfl) ?_ _
  dsimp only [NoP]
  generalize w6.setCell ⟨w.heap.size + 1, 0, none⟩ (.int .i64 0) = w7 at *
  have a0 := R7.out.2.2.1.cell 0 _ rfl
  have a1 := R7.out.2.1.cell 0 _ rfl
  have a4 := R7.out.2.2.2.1.cell 0 _ rfl
  go_wp2_with fail
  refine (Sync_any 1 _ R7.out.1).mono ?_
  rw [HSY.out]
  rintro e w8 ⟨va8, vb8, rfl, hp, hst, hbl⟩
  have R8 := hide (R7.out.act hp hst hbl)
  have R9 := hide (R8.out.seten HN0.out 0)
  have b4 := R8.out.2.2.2.1.cell 0 _ rfl
  have g4 := R8.out.2.2.2.1.free 0
  clear hp hst hbl R7 R8 a0 a1 a4 q6 q7 R6 R4
  go_upto_region 12 with fail
  generalize w8.setCell ⟨w.heap.size + 1, 0, none⟩ (.int .i64 0) = w9 at *
  clear b4 g4
  have a0 := R9.out.2.2.1.cell 0 _ rfl
  have a1 := R9.out.2.1.cell 1 _ rfl
  have a2 := R9.out.2.1.cell 2 _ rfl
  have f1 := R9.out.2.1.free 1
  have f2 := R9.out.2.1.free 2
  have R10 := hide ((R9.out.setj HNJ.out 1 (t + 1)).drew)
  refine wp_nop ?_
  refine wp_region_held_drew (S := fun W => W.cell? ⟨w.heap.size, 0, none⟩ = some (.pointer (some ⟨jb, 0, none⟩))) (by kernel_rfl) (R9.out.2.2.1.cell 0 _ rfl) (fun hS0 => ?_)
  refine takeInH 0 48 ?v11 rfl rfl (by kernel_rfl) (by kernel_rfl) (by kernel_rfl) (fun _ _ _ h => h) (by kernel_rfl) hS0 ?hy11 ?_
  case hy11 => (intro W hW; have e0 := hW; clear hW; go_simp; try rfl)
  simp only [Act.put, List.setIfInBounds_toArray, List.set_cons_zero, List.set_cons_succ]
  refine takeInH 1 49 ?v12 rfl rfl (by kernel_rfl) (by kernel_rfl) (by kernel_rfl) (fun _ _ _ h => h) (by kernel_rfl) hS0 ?hy12 ?_
  case hy12 => (intro W hW; have e0 := hW; clear hW; go_simp; try rfl)
  simp only [Act.put, List.setIfInBounds_toArray, List.set_cons_zero, List.set_cons_succ]
  refine takeInH 2 50 ?v13 rfl rfl (by kernel_rfl) (by kernel_rfl) (by kernel_rfl) (fun _ _ _ h => h) (by kernel_rfl) hS0 ?hy13 ?_
  case hy13 => (intro W hW; clear hW; go_simp; try rfl)
  simp only [Act.put, List.setIfInBounds_toArray, List.set_cons_zero, List.set_cons_succ]
  refine takeInH 3 51 ?v14 rfl rfl (by kernel_rfl) (by kernel_rfl) (by kernel_rfl) (fun _ _ _ h => h) (by kernel_rfl) hS0 ?hy14 ?_
  case hy14 => (intro W hW; clear hW; go_simp; try rfl)
  simp only [Act.put, List.setIfInBounds_toArray, List.set_cons_zero, List.set_cons_succ]
  refine takeInH 4 52 ?v15 rfl rfl (by kernel_rfl) (by kernel_rfl) (by kernel_rfl) (fun _ _ _ h => h) (by kernel_rfl) hS0 ?hy15 ?_
  case hy15 => (intro W hW; clear hW; go_simp; try rfl)
  simp only [Act.put, List.setIfInBounds_toArray, List.set_cons_zero, List.set_cons_succ]
  refine takeInH 5 53 ?v16 rfl rfl (by kernel_rfl) (by kernel_rfl) (by kernel_rfl) (fun _ _ _ h => h) (by kernel_rfl) hS0 ?hy16 ?_
  case hy16 => (intro W hW; clear hW; go_simp; try rfl)
  simp only [Act.put, List.setIfInBounds_toArray, List.set_cons_zero, List.set_cons_succ]
  refine wpAnyH_ready (rs := [6]) (by kernel_rfl) (by simp) ?_
  refine AllReadyH.cons rfl (fun K hK => ?_) AllReadyH.nil
  go_simp
  refine hK.out _ _ ?hs17 (fun hS1 => ?_)
  case hs17 => exact (show _ from (R9.out.2.2.1.other (R9.out.ne2) 1 (.int .i64 1)).cell 0 _ rfl)
  clear hK K
  refine takeInH 7 54 ?v18 rfl rfl (by kernel_rfl) (by kernel_rfl) (by kernel_rfl) (fun _ _ _ h => h) (by kernel_rfl) hS1 ?hy18 ?_
  case hy18 => (intro W hW; clear hW; go_simp; try rfl)
  simp only [Act.put, List.setIfInBounds_toArray, List.set_cons_zero, List.set_cons_succ]
  refine takeInH 8 55 ?v19 rfl rfl (by kernel_rfl) (by kernel_rfl) (by kernel_rfl) (fun _ _ _ h => h) (by kernel_rfl) hS1 ?hy19 ?_
  case hy19 => (intro W hW; clear hW; go_simp; try rfl)
  simp only [Act.put, List.setIfInBounds_toArray, List.set_cons_zero, List.set_cons_succ]
  refine wpAnyH_ready (rs := [9]) (by kernel_rfl) (by simp) ?_
  refine AllReadyH.cons rfl (fun K hK => ?_) AllReadyH.nil
  go_simp
  refine hK.out _ _ ?hs20 (fun hS2 => ?_)
  case hs20 => exact R10.out.2.2.1.cell 0 _ rfl
  clear hK K
  refine wpAnyH_done (by kernel_rfl) ?_ _
  dsimp only [NoP]
  clear a0 a1 a2 f1 f2 R9
  generalize ((w9.setCell ⟨jb, 1, none⟩ (.int .i64 1)).setCell ⟨jb, 2, none⟩ (.int .i64 (t + 1))).drew = w10 at *
  have a4 := R10.out.2.2.2.1.cell 0 _ rfl
  have f4 := R10.out.2.2.2.1.free 0
  have R11 := hide (R10.out.seten HN0.out 0)
  clear R10
  go_wp2
  clear a4 f4
  generalize w10.setCell ⟨w.heap.size + 1, 0, none⟩ (.int .i64 0) = w11 at *
  refine leaves_cons (f := 55) (args := #[.pointer (some ⟨w.heap.size + 1, 0, none⟩), .pointer (some ⟨w.heap.size, 0, none⟩)]) (by simp) (by simp [go_sem]) ?_
  refine (renew1_ok _ _ jb g 1 (t + 1) false _ _ .returning w11 R11.out.2.2.2.1 R11.out.2.2.1 R11.out.2.1).mono ?_
  rintro e u' w9 ⟨rfl, rfl, rfl⟩
  have R9 := hide (R11.out.told HNJ.out)
  have q9 := R9.out.2.2.2.1.cell 0 _ rfl
  have P9 := hide R9.out.1
  have J9 := hide R9.out.2.1
  have S9 := hide R9.out.2.2.2.2.1
  have L9 := hide R9.out.2.2.2.2.2.1
  clear R9
  generalize (w11.setCell ⟨jb, 3, none⟩ (.bool false)).drew = w9 at *
  first
    | refine ⟨.int .i64 0, ?_, _, _, rfl, P9.out, J9.out, S9.out, L9.out⟩
    | refine ⟨.int .i64 0, ?_, rfl, _, _, P9.out, J9.out, S9.out, L9.out⟩
  simp [results, Try.results44, go_sem, q9]
set_option maxHeartbeats 4000000 in
theorem renew_1ok {N g jb : Nat} {va vb : Value} {d : Dk} {t : Int} (p : Option Addr) (n c : Nat) (m : List Int) (w : World) (h : PD N g w va vb d) (hs : d.stop = -1) (hj : BJ w jb g 1 t false) (hN : N ≤ jb) (ht0 : 0 ≤ t) (ht1 : t < 1099511627776) (hB : BSX (Xs g va vb) w p n m) (hC : CP p n c) (hn : n ≤ 100000000) (hl : ¬ ((frame7 (t + 1) m).length : Int) > (d.set 0 ⟨[], 0⟩).left) :
    Calls Try.prog 44 #[.pointer (some ⟨jb, 0, none⟩), .slice p n c] w fun e w' => ∃ va' vb', e = .returned (.int .i64 0) ∧ PD N g w' va' vb' (d.set 0 ⟨frame7 (t + 1) m, (frame7 (t + 1) m).length⟩) ∧ BJ w' jb g 0 (t + 1) false ∧ Sp (XJ g va vb jb) (XJ g va' vb' jb) w w' ∧ Below N w w' := by
  have hmf : ∀ (fn : Fn) (first cap : Array Value) (w : World), (Instr.makeFunc fn first cap).run Try.prog w = .ok (.func fn first cap) w := fun _ _ _ _ => rfl
  have HN0 : Hid (N ≤ w.heap.size) := Nat.le_trans h.2.2.2.2.1 (Nat.le_of_lt h.1.size)
  have HNJ := hide hN
  have HC := hide hC
  have HFB : Hid (By (frame7 (t + 1) m)) := ((record_by (by decide) (by decide) (num_by _)).append hB.1.2.2.1).append (record_by (by decide) (by decide) By.nil)
  have hA : BX (w.alloc (.cells #[.pointer (some ⟨jb, 0, none⟩)] 34)) w.heap.size #[.pointer (some ⟨jb, 0, none⟩)] 34 := BX.new w _ rfl _ _
  have hbe : Below w.heap.size w ((w.alloc (.cells #[.pointer (some ⟨jb, 0, none⟩)] 34)).alloc (.cells #[.int .i64 0] 25)) := bel_next (bel1 _ _) (bel1 _ _)
  have R0 : Hid (RN N g jb w.heap.size w ((w.alloc (.cells #[.pointer (some ⟨jb, 0, none⟩)] 34)).alloc (.cells #[.int .i64 0] 25)) va vb d 1 t 0 va vb) :=
    ⟨h.below hbe, hj.below hbe, hA.alloc _, BX.new _ _ (by simp) _ _, Sp.below hbe, hbe.mono HN0.out, Nat.le_refl _⟩
  have BS0 := hide (hB.bel hbe)
  have HCL : Hid (d.pact 1 0 [] = (d.set 0 ⟨[], 0⟩, 0)) := pact_clr hs (by decide)
  have HAPP : Hid ((d.set 0 ⟨[], 0⟩).pact 0 0 (frame7 (t + 1) m) = (d.set 0 ⟨frame7 (t + 1) m, 0⟩, 0)) := by
    unfold Hid
    rw [pact_app (by rw [Dk.set_stop]; exact hs) (by decide) _ hl, Dk.get_set, Dk.set_set]; rfl
  have HSY : Hid ((d.set 0 ⟨frame7 (t + 1) m, 0⟩).pact 2 0 [] = (d.set 0 ⟨frame7 (t + 1) m, (frame7 (t + 1) m).length⟩, 0)) := by
    unfold Hid
    rw [pact_syn (by rw [Dk.set_stop]; exact hs) (by decide), Dk.get_set, Dk.set_set]
  clear h hs hj hN hB hC hA hbe hl
  go_enter_defers Try.func44, Try.ntmps44
  go_upto_region 2 with fail
  generalize (w.alloc (.cells #[.pointer (some ⟨jb, 0, none⟩)] 34)).alloc (.cells #[.int .i64 0] 25) = w2 at *
  have a0 := R0.out.2.2.1.cell 0 _ rfl
  have a1 := R0.out.2.1.cell 1 _ rfl
  have a2 := R0.out.2.1.cell 2 _ rfl
  go_region
  have R2 := hide R0.out.drew
  have BS2 := hide (BS0.out.bel (Below.refl _ _).drew)
  clear a0 a1 a2 R0 BS0
  generalize w2.drew = w3 at *
  have a0 := R2.out.2.2.1.cell 0 _ rfl
  have a1 := R2.out.2.1.cell 0 _ rfl
  go_wp2_with fail
  refine (Clear_any 0 _ R2.out.1).mono ?_
  rw [HCL.out]
  rintro e w4' ⟨va4, vb4, rfl, hp, hst, hbl⟩
  have R3 := hide (R2.out.act hp hst hbl)
  have BS3' := hide (BSX.stp BS2.out hst)
  have a4 := R3.out.2.2.2.1.cell 0 _ rfl
  have f4 := R3.out.2.2.2.1.free 0
  have R4 := hide (R3.out.seten HN0.out 0)
  have BS3 : Hid (BSX (Xs g va4 vb4) (w4'.setCell ⟨w.heap.size + 1, 0, none⟩ (.int .i64 0)) p n m) := ⟨BS3'.out.1.kp ((KP.refl _ _).set 0 _) R3.out.2.2.2.1 (NoB.mk [.int .i64 0] (by simp)), BS3'.out.2⟩
  clear hp hst hbl R2 R3 BS2 a0 a1 BS3'
  go_upto_region 6 with fail
  generalize w4'.setCell ⟨w.heap.size + 1, 0, none⟩ (.int .i64 0) = w4 at *
  clear a4 f4
  refine wp_nop ?_
  refine wp_region_held_drew (S := fun W => W.cell? ⟨w.heap.size, 0, none⟩ = some (.pointer (some ⟨jb, 0, none⟩)) ∧ W.cell? ⟨jb, 0, none⟩ = some (.pointer (some ⟨g, 0, none⟩))) (by kernel_rfl) (⟨R4.out.2.2.1.cell 0 _ rfl, R4.out.2.1.cell 0 _ rfl⟩) (fun hS0 => ?_)
  refine takeInH 0 27 ?v21 rfl rfl (by kernel_rfl) (by kernel_rfl) (by kernel_rfl) (fun _ _ _ h => h) (by kernel_rfl) hS0 ?hy21 ?_
  case hy21 => (intro W hW; have e0 := hW.1; have e1 := hW.2; clear hW; go_simp; try rfl)
  simp only [Act.put, List.setIfInBounds_toArray, List.set_cons_zero, List.set_cons_succ]
  refine takeInH 1 28 ?v22 rfl rfl (by kernel_rfl) (by kernel_rfl) (by kernel_rfl) (fun _ _ _ h => h) (by kernel_rfl) hS0 ?hy22 ?_
  case hy22 => (intro W hW; clear hW; go_simp; try rfl)
  simp only [Act.put, List.setIfInBounds_toArray, List.set_cons_zero, List.set_cons_succ]
  refine takeInH 2 29 ?v23 rfl rfl (by kernel_rfl) (by kernel_rfl) (by kernel_rfl) (fun _ _ _ h => h) (by kernel_rfl) hS0 ?hy23 ?_
  case hy23 => (intro W hW; clear hW; go_simp; try rfl)
  simp only [Act.put, List.setIfInBounds_toArray, List.set_cons_zero, List.set_cons_succ]
  refine takeInH 3 30 ?v24 rfl rfl (by kernel_rfl) (by kernel_rfl) (by kernel_rfl) (fun _ _ _ h => h) (by kernel_rfl) hS0 ?hy24 ?_
  case hy24 => (intro W hW; have e0 := hW.1; have e1 := hW.2; clear hW; go_simp; try rfl)
  simp only [Act.put, List.setIfInBounds_toArray, List.set_cons_zero, List.set_cons_succ]
  refine takeInH 4 31 ?v25 rfl rfl (by kernel_rfl) (by kernel_rfl) (by kernel_rfl) (fun _ _ _ h => h) (by kernel_rfl) hS0 ?hy25 ?_
  case hy25 => (intro W hW; clear hW; go_simp; try rfl)
  simp only [Act.put, List.setIfInBounds_toArray, List.set_cons_zero, List.set_cons_succ]
  refine takeInH 5 32 ?v26 rfl rfl (by kernel_rfl) (by kernel_rfl) (by kernel_rfl) (fun _ _ _ h => h) (by kernel_rfl) hS0 ?hy26 ?_
  case hy26 => (intro W hW; clear hW; go_simp; try rfl)
  simp only [Act.put, List.setIfInBounds_toArray, List.set_cons_zero, List.set_cons_succ]
  refine takeInH 6 33 ?v27 rfl rfl (by kernel_rfl) (by kernel_rfl) (by kernel_rfl) (fun _ _ _ h => h) (by kernel_rfl) hS0 ?hy27 ?_
  case hy27 => (intro W hW; clear hW; go_simp; try rfl)
  simp only [Act.put, List.setIfInBounds_toArray, List.set_cons_zero, List.set_cons_succ]
  refine wpAnyH_ready (rs := [7]) (by kernel_rfl) (by simp) ?_
  refine AllReadyH.cons rfl (fun K hK => ?_) AllReadyH.nil
  go_simp
  refine (framed_as (t + 1) p n c m _ (by omega) (by omega) (BS3.out.1.below (Below.refl _ _).drew) HC.out hn).mono ?_
  rintro e w5 ⟨p5, n5, c5, rfl, hb5, hc5, hb⟩
  have R5 := hide (R4.out.drew.below hb)
  have B5 := hide hb5
  have C5 := hide hc5
  clear hb hb5 hc5
  refine hK.out _ _ ?hs28 (fun hS1 => ?_)
  case hs28 => exact ⟨R5.out.2.2.1.cell 0 _ rfl, R5.out.2.1.cell 0 _ rfl⟩
  clear hK K
  try simp only [Act.put, List.setIfInBounds_toArray, List.set_cons_zero, List.set_cons_succ]
  refine wpAnyH_ready (rs := [8]) (by kernel_rfl) (by simp) ?_
  refine AllReadyH.cons rfl (fun K hK => ?_) AllReadyH.nil
  go_simp
  refine (Append_any 0 p5 n5 c5 _ _ R5.out.1 B5.out C5.out).mono ?_
  rw [HAPP.out]
  rintro e w6 ⟨va6, vb6, rfl, hp, hst, hbl⟩
  have R6 := hide (R5.out.act hp hst hbl)
  clear hp hst hbl R5 B5 C5
  refine hK.out _ _ ?hs29 (fun hS2 => ?_)
  case hs29 => exact ⟨R6.out.2.2.1.cell 0 _ rfl, R6.out.2.1.cell 0 _ rfl⟩
  clear hK K
  refine wpAnyH_ready (rs := [9]) (by kernel_rfl) (by simp) ?_
  refine AllReadyH.cons rfl (fun K hK => ?_) AllReadyH.nil
  have q6 := R6.out.2.2.2.1.cell 0 _ rfl
  have q7 := R6.out.2.2.2.1.free 0
  have R7 := hide (R6.out.seten HN0.out 0)
  go_simp
  refine hK.out _ _ ?hs30 (fun hS3 => ?_)
  case hs30 => exact ⟨R7.out.2.2.1.cell 0 _ rfl, R7.out.2.1.cell 0 _ rfl⟩
  clear hK K
  refine wpAnyH_done (by kernel_rfl) ?_ _
  dsimp only [NoP]
  generalize w6.setCell ⟨w.heap.size + 1, 0, none⟩ (.int .i64 0) = w7 at *
  have a0 := R7.out.2.2.1.cell 0 _ rfl
  have a1 := R7.out.2.1.cell 0 _ rfl
  have a4 := R7.out.2.2.2.1.cell 0 _ rfl
  go_wp2_with fail
  refine (Sync_any 0 _ R7.out.1).mono ?_
  rw [HSY.out]
  rintro e w8 ⟨va8, vb8, rfl, hp, hst, hbl⟩
  have R8 := hide (R7.out.act hp hst hbl)
  have R9 := hide (R8.out.seten HN0.out 0)
  have b4 := R8.out.2.2.2.1.cell 0 _ rfl
  have g4 := R8.out.2.2.2.1.free 0
  clear hp hst hbl R7 R8 a0 a1 a4 q6 q7 R6 R4
  go_upto_region 12 with fail
  generalize w8.setCell ⟨w.heap.size + 1, 0, none⟩ (.int .i64 0) = w9 at *
  clear b4 g4
  have a0 := R9.out.2.2.1.cell 0 _ rfl
  have a1 := R9.out.2.1.cell 1 _ rfl
  have a2 := R9.out.2.1.cell 2 _ rfl
  have f1 := R9.out.2.1.free 1
  have f2 := R9.out.2.1.free 2
  have R10 := hide ((R9.out.setj HNJ.out 0 (t + 1)).drew)
  refine wp_nop ?_
  refine wp_region_held_drew (S := fun W => W.cell? ⟨w.heap.size, 0, none⟩ = some (.pointer (some ⟨jb, 0, none⟩))) (by kernel_rfl) (R9.out.2.2.1.cell 0 _ rfl) (fun hS0 => ?_)
  refine takeInH 0 48 ?v31 rfl rfl (by kernel_rfl) (by kernel_rfl) (by kernel_rfl) (fun _ _ _ h => h) (by kernel_rfl) hS0 ?hy31 ?_
  case hy31 => (intro W hW; have e0 := hW; clear hW; go_simp; try rfl)
  simp only [Act.put, List.setIfInBounds_toArray, List.set_cons_zero, List.set_cons_succ]
  refine takeInH 1 49 ?v32 rfl rfl (by kernel_rfl) (by kernel_rfl) (by kernel_rfl) (fun _ _ _ h => h) (by kernel_rfl) hS0 ?hy32 ?_
  case hy32 => (intro W hW; have e0 := hW; clear hW; go_simp; try rfl)
  simp only [Act.put, List.setIfInBounds_toArray, List.set_cons_zero, List.set_cons_succ]
  refine takeInH 2 50 ?v33 rfl rfl (by kernel_rfl) (by kernel_rfl) (by kernel_rfl) (fun _ _ _ h => h) (by kernel_rfl) hS0 ?hy33 ?_
  case hy33 => (intro W hW; clear hW; go_simp; try rfl)
  simp only [Act.put, List.setIfInBounds_toArray, List.set_cons_zero, List.set_cons_succ]
  refine takeInH 3 51 ?v34 rfl rfl (by kernel_rfl) (by kernel_rfl) (by kernel_rfl) (fun _ _ _ h => h) (by kernel_rfl) hS0 ?hy34 ?_
  case hy34 => (intro W hW; clear hW; go_simp; try rfl)
  simp only [Act.put, List.setIfInBounds_toArray, List.set_cons_zero, List.set_cons_succ]
  refine takeInH 4 52 ?v35 rfl rfl (by kernel_rfl) (by kernel_rfl) (by kernel_rfl) (fun _ _ _ h => h) (by kernel_rfl) hS0 ?hy35 ?_
  case hy35 => (intro W hW; clear hW; go_simp; try rfl)
  simp only [Act.put, List.setIfInBounds_toArray, List.set_cons_zero, List.set_cons_succ]
  refine takeInH 5 53 ?v36 rfl rfl (by kernel_rfl) (by kernel_rfl) (by kernel_rfl) (fun _ _ _ h => h) (by kernel_rfl) hS0 ?hy36 ?_
  case hy36 => (intro W hW; clear hW; go_simp; try rfl)
  simp only [Act.put, List.setIfInBounds_toArray, List.set_cons_zero, List.set_cons_succ]
  refine wpAnyH_ready (rs := [6]) (by kernel_rfl) (by simp) ?_
  refine AllReadyH.cons rfl (fun K hK => ?_) AllReadyH.nil
  go_simp
  refine hK.out _ _ ?hs37 (fun hS1 => ?_)
  case hs37 => exact (show _ from (R9.out.2.2.1.other (R9.out.ne2) 1 (.int .i64 0)).cell 0 _ rfl)
  clear hK K
  refine takeInH 7 54 ?v38 rfl rfl (by kernel_rfl) (by kernel_rfl) (by kernel_rfl) (fun _ _ _ h => h) (by kernel_rfl) hS1 ?hy38 ?_
  case hy38 => (intro W hW; clear hW; go_simp; try rfl)
  simp only [Act.put, List.setIfInBounds_toArray, List.set_cons_zero, List.set_cons_succ]
  refine takeInH 8 55 ?v39 rfl rfl (by kernel_rfl) (by kernel_rfl) (by kernel_rfl) (fun _ _ _ h => h) (by kernel_rfl) hS1 ?hy39 ?_
  case hy39 => (intro W hW; clear hW; go_simp; try rfl)
  simp only [Act.put, List.setIfInBounds_toArray, List.set_cons_zero, List.set_cons_succ]
  refine wpAnyH_ready (rs := [9]) (by kernel_rfl) (by simp) ?_
  refine AllReadyH.cons rfl (fun K hK => ?_) AllReadyH.nil
  go_simp
  refine hK.out _ _ ?hs40 (fun hS2 => ?_)
  case hs40 => exact R10.out.2.2.1.cell 0 _ rfl
  clear hK K
  refine wpAnyH_done (by kernel_rfl) ?_ _
  dsimp only [NoP]
  clear a0 a1 a2 f1 f2 R9
  generalize ((w9.setCell ⟨jb, 1, none⟩ (.int .i64 0)).setCell ⟨jb, 2, none⟩ (.int .i64 (t + 1))).drew = w10 at *
  have a4 := R10.out.2.2.2.1.cell 0 _ rfl
  have f4 := R10.out.2.2.2.1.free 0
  have R11 := hide (R10.out.seten HN0.out 0)
  clear R10
  go_wp2
  clear a4 f4
  generalize w10.setCell ⟨w.heap.size + 1, 0, none⟩ (.int .i64 0) = w11 at *
  refine leaves_cons (f := 55) (args := #[.pointer (some ⟨w.heap.size + 1, 0, none⟩), .pointer (some ⟨w.heap.size, 0, none⟩)]) (by simp) (by simp [go_sem]) ?_
  refine (renew1_ok _ _ jb g 0 (t + 1) false _ _ .returning w11 R11.out.2.2.2.1 R11.out.2.2.1 R11.out.2.1).mono ?_
  rintro e u' w9 ⟨rfl, rfl, rfl⟩
  have R9 := hide (R11.out.told HNJ.out)
  have q9 := R9.out.2.2.2.1.cell 0 _ rfl
  have P9 := hide R9.out.1
  have J9 := hide R9.out.2.1
  have S9 := hide R9.out.2.2.2.2.1
  have L9 := hide R9.out.2.2.2.2.2.1
  clear R9
  generalize (w11.setCell ⟨jb, 3, none⟩ (.bool false)).drew = w9 at *
  first
    | refine ⟨.int .i64 0, ?_, _, _, rfl, P9.out, J9.out, S9.out, L9.out⟩
    | refine ⟨.int .i64 0, ?_, rfl, _, _, P9.out, J9.out, S9.out, L9.out⟩
  simp [results, Try.results44, go_sem, q9]
set_option maxHeartbeats 4000000 in
theorem renew_0full {N g jb : Nat} {va vb : Value} {d : Dk} {t : Int} (p : Option Addr) (n c : Nat) (m : List Int) (w : World) (h : PD N g w va vb d) (hs : d.stop = -1) (hj : BJ w jb g 0 t false) (hN : N ≤ jb) (ht0 : 0 ≤ t) (ht1 : t < 1099511627776) (hB : BSX (Xs g va vb) w p n m) (hC : CP p n c) (hn : n ≤ 100000000) (hl : ((frame7 (t + 1) m).length : Int) > (d.set 1 ⟨[], 0⟩).left) :
    Calls Try.prog 44 #[.pointer (some ⟨jb, 0, none⟩), .slice p n c] w fun e w' => ∃ va' vb', e = .returned (.int .i64 6) ∧ PD N g w' va' vb' (d.set 1 ⟨[], 0⟩) ∧ BJ w' jb g 0 t false ∧ Sp (XJ g va vb jb) (XJ g va' vb' jb) w w' ∧ Below N w w' := by
  have hmf : ∀ (fn : Fn) (first cap : Array Value) (w : World), (Instr.makeFunc fn first cap).run Try.prog w = .ok (.func fn first cap) w := fun _ _ _ _ => rfl
  have HN0 : Hid (N ≤ w.heap.size) := Nat.le_trans h.2.2.2.2.1 (Nat.le_of_lt h.1.size)
  have HNJ := hide hN
  have HC := hide hC
  have HFB : Hid (By (frame7 (t + 1) m)) := ((record_by (by decide) (by decide) (num_by _)).append hB.1.2.2.1).append (record_by (by decide) (by decide) By.nil)
  have hA : BX (w.alloc (.cells #[.pointer (some ⟨jb, 0, none⟩)] 34)) w.heap.size #[.pointer (some ⟨jb, 0, none⟩)] 34 := BX.new w _ rfl _ _
  have hbe : Below w.heap.size w ((w.alloc (.cells #[.pointer (some ⟨jb, 0, none⟩)] 34)).alloc (.cells #[.int .i64 0] 25)) := bel_next (bel1 _ _) (bel1 _ _)
  have R0 : Hid (RN N g jb w.heap.size w ((w.alloc (.cells #[.pointer (some ⟨jb, 0, none⟩)] 34)).alloc (.cells #[.int .i64 0] 25)) va vb d 0 t 0 va vb) :=
    ⟨h.below hbe, hj.below hbe, hA.alloc _, BX.new _ _ (by simp) _ _, Sp.below hbe, hbe.mono HN0.out, Nat.le_refl _⟩
  have BS0 := hide (hB.bel hbe)
  have HCL : Hid (d.pact 1 1 [] = (d.set 1 ⟨[], 0⟩, 0)) := pact_clr hs (by decide)
  have HAPP : Hid ((d.set 1 ⟨[], 0⟩).pact 0 1 (frame7 (t + 1) m) = (d.set 1 ⟨[], 0⟩, 6)) := by
    unfold Hid
    rw [pact_full (by rw [Dk.set_stop]; exact hs) (by decide) _ hl]
  have HST : Hid (((d.set 1 ⟨[], 0⟩).stop == 0) = false) := by unfold Hid; rw [Dk.set_stop, hs]; rfl
  clear h hs hj hN hB hC hA hbe hl
  go_enter_defers Try.func44, Try.ntmps44
  go_upto_region 2 with fail
  generalize (w.alloc (.cells #[.pointer (some ⟨jb, 0, none⟩)] 34)).alloc (.cells #[.int .i64 0] 25) = w2 at *
  have a0 := R0.out.2.2.1.cell 0 _ rfl
  have a1 := R0.out.2.1.cell 1 _ rfl
  have a2 := R0.out.2.1.cell 2 _ rfl
  go_region
  have R2 := hide R0.out.drew
  have BS2 := hide (BS0.out.bel (Below.refl _ _).drew)
  clear a0 a1 a2 R0 BS0
  generalize w2.drew = w3 at *
  have a0 := R2.out.2.2.1.cell 0 _ rfl
  have a1 := R2.out.2.1.cell 0 _ rfl
  go_wp2_with fail
  refine (Clear_any 1 _ R2.out.1).mono ?_
  rw [HCL.out]
  rintro e w4' ⟨va4, vb4, rfl, hp, hst, hbl⟩
  have R3 := hide (R2.out.act hp hst hbl)
  have BS3' := hide (BSX.stp BS2.out hst)
  have a4 := R3.out.2.2.2.1.cell 0 _ rfl
  have f4 := R3.out.2.2.2.1.free 0
  have R4 := hide (R3.out.seten HN0.out 0)
  have BS3 : Hid (BSX (Xs g va4 vb4) (w4'.setCell ⟨w.heap.size + 1, 0, none⟩ (.int .i64 0)) p n m) := ⟨BS3'.out.1.kp ((KP.refl _ _).set 0 _) R3.out.2.2.2.1 (NoB.mk [.int .i64 0] (by simp)), BS3'.out.2⟩
  clear hp hst hbl R2 R3 BS2 a0 a1 BS3'
  go_upto_region 6 with fail
  generalize w4'.setCell ⟨w.heap.size + 1, 0, none⟩ (.int .i64 0) = w4 at *
  clear a4 f4
  refine wp_nop ?_
  refine wp_region_held_drew (S := fun W => W.cell? ⟨w.heap.size, 0, none⟩ = some (.pointer (some ⟨jb, 0, none⟩)) ∧ W.cell? ⟨jb, 0, none⟩ = some (.pointer (some ⟨g, 0, none⟩))) (by kernel_rfl) (⟨R4.out.2.2.1.cell 0 _ rfl, R4.out.2.1.cell 0 _ rfl⟩) (fun hS0 => ?_)
  refine takeInH 0 27 ?v41 rfl rfl (by kernel_rfl) (by kernel_rfl) (by kernel_rfl) (fun _ _ _ h => h) (by kernel_rfl) hS0 ?hy41 ?_
  case hy41 => (intro W hW; have e0 := hW.1; have e1 := hW.2; clear hW; go_simp; try rfl)
  simp only [Act.put, List.setIfInBounds_toArray, List.set_cons_zero, List.set_cons_succ]
  refine takeInH 1 28 ?v42 rfl rfl (by kernel_rfl) (by kernel_rfl) (by kernel_rfl) (fun _ _ _ h => h) (by kernel_rfl) hS0 ?hy42 ?_
  case hy42 => (intro W hW; clear hW; go_simp; try rfl)
  simp only [Act.put, List.setIfInBounds_toArray, List.set_cons_zero, List.set_cons_succ]
  refine takeInH 2 29 ?v43 rfl rfl (by kernel_rfl) (by kernel_rfl) (by kernel_rfl) (fun _ _ _ h => h) (by kernel_rfl) hS0 ?hy43 ?_
  case hy43 => (intro W hW; clear hW; go_simp; try rfl)
  simp only [Act.put, List.setIfInBounds_toArray, List.set_cons_zero, List.set_cons_succ]
  refine takeInH 3 30 ?v44 rfl rfl (by kernel_rfl) (by kernel_rfl) (by kernel_rfl) (fun _ _ _ h => h) (by kernel_rfl) hS0 ?hy44 ?_
  case hy44 => (intro W hW; have e0 := hW.1; have e1 := hW.2; clear hW; go_simp; try rfl)
  simp only [Act.put, List.setIfInBounds_toArray, List.set_cons_zero, List.set_cons_succ]
  refine takeInH 4 31 ?v45 rfl rfl (by kernel_rfl) (by kernel_rfl) (by kernel_rfl) (fun _ _ _ h => h) (by kernel_rfl) hS0 ?hy45 ?_
  case hy45 => (intro W hW; clear hW; go_simp; try rfl)
  simp only [Act.put, List.setIfInBounds_toArray, List.set_cons_zero, List.set_cons_succ]
  refine takeInH 5 32 ?v46 rfl rfl (by kernel_rfl) (by kernel_rfl) (by kernel_rfl) (fun _ _ _ h => h) (by kernel_rfl) hS0 ?hy46 ?_
  case hy46 => (intro W hW; clear hW; go_simp; try rfl)
  simp only [Act.put, List.setIfInBounds_toArray, List.set_cons_zero, List.set_cons_succ]
  refine takeInH 6 33 ?v47 rfl rfl (by kernel_rfl) (by kernel_rfl) (by kernel_rfl) (fun _ _ _ h => h) (by kernel_rfl) hS0 ?hy47 ?_
  case hy47 => (intro W hW; clear hW; go_simp; try rfl)
  simp only [Act.put, List.setIfInBounds_toArray, List.set_cons_zero, List.set_cons_succ]
  refine wpAnyH_ready (rs := [7]) (by kernel_rfl) (by simp) ?_
  refine AllReadyH.cons rfl (fun K hK => ?_) AllReadyH.nil
  go_simp
  refine (framed_as (t + 1) p n c m _ (by omega) (by omega) (BS3.out.1.below (Below.refl _ _).drew) HC.out hn).mono ?_
  rintro e w5 ⟨p5, n5, c5, rfl, hb5, hc5, hb⟩
  have R5 := hide (R4.out.drew.below hb)
  have B5 := hide hb5
  have C5 := hide hc5
  clear hb hb5 hc5
  refine hK.out _ _ ?hs48 (fun hS1 => ?_)
  case hs48 => exact ⟨R5.out.2.2.1.cell 0 _ rfl, R5.out.2.1.cell 0 _ rfl⟩
  clear hK K
  try simp only [Act.put, List.setIfInBounds_toArray, List.set_cons_zero, List.set_cons_succ]
  refine wpAnyH_ready (rs := [8]) (by kernel_rfl) (by simp) ?_
  refine AllReadyH.cons rfl (fun K hK => ?_) AllReadyH.nil
  go_simp
  refine (Append_any 1 p5 n5 c5 _ _ R5.out.1 B5.out C5.out).mono ?_
  rw [HAPP.out]
  rintro e w6 ⟨va6, vb6, rfl, hp, hst, hbl⟩
  have R6 := hide (R5.out.act hp hst hbl)
  clear hp hst hbl R5 B5 C5
  refine hK.out _ _ ?hs49 (fun hS2 => ?_)
  case hs49 => exact ⟨R6.out.2.2.1.cell 0 _ rfl, R6.out.2.1.cell 0 _ rfl⟩
  clear hK K
  refine wpAnyH_ready (rs := [9]) (by kernel_rfl) (by simp) ?_
  refine AllReadyH.cons rfl (fun K hK => ?_) AllReadyH.nil
  have q6 := R6.out.2.2.2.1.cell 0 _ rfl
  have q7 := R6.out.2.2.2.1.free 0
  have R7 := hide (R6.out.seten HN0.out 6)
  go_simp
  refine hK.out _ _ ?hs50 (fun hS3 => ?_)
  case hs50 => exact ⟨R7.out.2.2.1.cell 0 _ rfl, R7.out.2.1.cell 0 _ rfl⟩
  clear hK K
  refine wpAnyH_done (by kernel_rfl) ?_ _
  dsimp only [NoP]
  generalize w6.setCell ⟨w.heap.size + 1, 0, none⟩ (.int .i64 6) = w7 at *
  have a0 := R7.out.2.2.1.cell 0 _ rfl
  have a1 := R7.out.2.1.cell 0 _ rfl
  have a4 := R7.out.2.2.2.1.cell 0 _ rfl
  have f4 := R7.out.2.2.2.1.free 0
  have R11 := hide (R7.out.seten HN0.out 6)
  clear R6 R4 q6 q7 R7
  go_wp2
  clear a0 a1 a4 f4
  generalize w7.setCell ⟨w.heap.size + 1, 0, none⟩ (.int .i64 6) = w11 at *
  refine leaves_cons (f := 55) (args := #[.pointer (some ⟨w.heap.size + 1, 0, none⟩), .pointer (some ⟨w.heap.size, 0, none⟩)]) (by simp) (by simp [go_sem]) ?_
  refine (renew1_bad _ _ jb g 0 t false _ _ _ _ 6 .returning w11 R11.out.2.2.2.1 R11.out.2.2.1 R11.out.2.1 R11.out.1.1 rfl rfl (by decide)).mono ?_
  rw [HST.out]
  rintro e u' w9 ⟨rfl, rfl, rfl⟩
  have R9 := hide (R11.out.told HNJ.out)
  have q9 := R9.out.2.2.2.1.cell 0 _ rfl
  have P9 := hide R9.out.1
  have J9 := hide R9.out.2.1
  have S9 := hide R9.out.2.2.2.2.1
  have L9 := hide R9.out.2.2.2.2.2.1
  clear R9
  generalize (w11.setCell ⟨jb, 3, none⟩ (.bool false)).drew = w9 at *
  first
    | refine ⟨.int .i64 6, ?_, _, _, rfl, P9.out, J9.out, S9.out, L9.out⟩
    | refine ⟨.int .i64 6, ?_, rfl, _, _, P9.out, J9.out, S9.out, L9.out⟩
  simp [results, Try.results44, go_sem, q9]
set_option maxHeartbeats 4000000 in
theorem renew_1full {N g jb : Nat} {va vb : Value} {d : Dk} {t : Int} (p : Option Addr) (n c : Nat) (m : List Int) (w : World) (h : PD N g w va vb d) (hs : d.stop = -1) (hj : BJ w jb g 1 t false) (hN : N ≤ jb) (ht0 : 0 ≤ t) (ht1 : t < 1099511627776) (hB : BSX (Xs g va vb) w p n m) (hC : CP p n c) (hn : n ≤ 100000000) (hl : ((frame7 (t + 1) m).length : Int) > (d.set 0 ⟨[], 0⟩).left) :
    Calls Try.prog 44 #[.pointer (some ⟨jb, 0, none⟩), .slice p n c] w fun e w' => ∃ va' vb', e = .returned (.int .i64 6) ∧ PD N g w' va' vb' (d.set 0 ⟨[], 0⟩) ∧ BJ w' jb g 1 t false ∧ Sp (XJ g va vb jb) (XJ g va' vb' jb) w w' ∧ Below N w w' := by
  have hmf : ∀ (fn : Fn) (first cap : Array Value) (w : World), (Instr.makeFunc fn first cap).run Try.prog w = .ok (.func fn first cap) w := fun _ _ _ _ => rfl
  have HN0 : Hid (N ≤ w.heap.size) := Nat.le_trans h.2.2.2.2.1 (Nat.le_of_lt h.1.size)
  have HNJ := hide hN
  have HC := hide hC
  have HFB : Hid (By (frame7 (t + 1) m)) := ((record_by (by decide) (by decide) (num_by _)).append hB.1.2.2.1).append (record_by (by decide) (by decide) By.nil)
  have hA : BX (w.alloc (.cells #[.pointer (some ⟨jb, 0, none⟩)] 34)) w.heap.size #[.pointer (some ⟨jb, 0, none⟩)] 34 := BX.new w _ rfl _ _
  have hbe : Below w.heap.size w ((w.alloc (.cells #[.pointer (some ⟨jb, 0, none⟩)] 34)).alloc (.cells #[.int .i64 0] 25)) := bel_next (bel1 _ _) (bel1 _ _)
  have R0 : Hid (RN N g jb w.heap.size w ((w.alloc (.cells #[.pointer (some ⟨jb, 0, none⟩)] 34)).alloc (.cells #[.int .i64 0] 25)) va vb d 1 t 0 va vb) :=
    ⟨h.below hbe, hj.below hbe, hA.alloc _, BX.new _ _ (by simp) _ _, Sp.below hbe, hbe.mono HN0.out, Nat.le_refl _⟩
  have BS0 := hide (hB.bel hbe)
  have HCL : Hid (d.pact 1 0 [] = (d.set 0 ⟨[], 0⟩, 0)) := pact_clr hs (by decide)
  have HAPP : Hid ((d.set 0 ⟨[], 0⟩).pact 0 0 (frame7 (t + 1) m) = (d.set 0 ⟨[], 0⟩, 6)) := by
    unfold Hid
    rw [pact_full (by rw [Dk.set_stop]; exact hs) (by decide) _ hl]
  have HST : Hid (((d.set 0 ⟨[], 0⟩).stop == 0) = false) := by unfold Hid; rw [Dk.set_stop, hs]; rfl
  clear h hs hj hN hB hC hA hbe hl
  go_enter_defers Try.func44, Try.ntmps44
  go_upto_region 2 with fail
  generalize (w.alloc (.cells #[.pointer (some ⟨jb, 0, none⟩)] 34)).alloc (.cells #[.int .i64 0] 25) = w2 at *
  have a0 := R0.out.2.2.1.cell 0 _ rfl
  have a1 := R0.out.2.1.cell 1 _ rfl
  have a2 := R0.out.2.1.cell 2 _ rfl
  go_region
  have R2 := hide R0.out.drew
  have BS2 := hide (BS0.out.bel (Below.refl _ _).drew)
  clear a0 a1 a2 R0 BS0
  generalize w2.drew = w3 at *
  have a0 := R2.out.2.2.1.cell 0 _ rfl
  have a1 := R2.out.2.1.cell 0 _ rfl
  go_wp2_with fail
  refine (Clear_any 0 _ R2.out.1).mono ?_
  rw [HCL.out]
  rintro e w4' ⟨va4, vb4, rfl, hp, hst, hbl⟩
  have R3 := hide (R2.out.act hp hst hbl)
  have BS3' := hide (BSX.stp BS2.out hst)
  have a4 := R3.out.2.2.2.1.cell 0 _ rfl
  have f4 := R3.out.2.2.2.1.free 0
  have R4 := hide (R3.out.seten HN0.out 0)
  have BS3 : Hid (BSX (Xs g va4 vb4) (w4'.setCell ⟨w.heap.size + 1, 0, none⟩ (.int .i64 0)) p n m) := ⟨BS3'.out.1.kp ((KP.refl _ _).set 0 _) R3.out.2.2.2.1 (NoB.mk [.int .i64 0] (by simp)), BS3'.out.2⟩
  clear hp hst hbl R2 R3 BS2 a0 a1 BS3'
  go_upto_region 6 with fail
  generalize w4'.setCell ⟨w.heap.size + 1, 0, none⟩ (.int .i64 0) = w4 at *
  clear a4 f4
  refine wp_nop ?_
  refine wp_region_held_drew (S := fun W => W.cell? ⟨w.heap.size, 0, none⟩ = some (.pointer (some ⟨jb, 0, none⟩)) ∧ W.cell? ⟨jb, 0, none⟩ = some (.pointer (some ⟨g, 0, none⟩))) (by kernel_rfl) (⟨R4.out.2.2.1.cell 0 _ rfl, R4.out.2.1.cell 0 _ rfl⟩) (fun hS0 => ?_)
  refine takeInH 0 27 ?v61 rfl rfl (by kernel_rfl) (by kernel_rfl) (by kernel_rfl) (fun _ _ _ h => h) (by kernel_rfl) hS0 ?hy61 ?_
  case hy61 => (intro W hW; have e0 := hW.1; have e1 := hW.2; clear hW; go_simp; try rfl)
  simp only [Act.put, List.setIfInBounds_toArray, List.set_cons_zero, List.set_cons_succ]
  refine takeInH 1 28 ?v62 rfl rfl (by kernel_rfl) (by kernel_rfl) (by kernel_rfl) (fun _ _ _ h => h) (by kernel_rfl) hS0 ?hy62 ?_
  case hy62 => (intro W hW; clear hW; go_simp; try rfl)
  simp only [Act.put, List.setIfInBounds_toArray, List.set_cons_zero, List.set_cons_succ]
  refine takeInH 2 29 ?v63 rfl rfl (by kernel_rfl) (by kernel_rfl) (by kernel_rfl) (fun _ _ _ h => h) (by kernel_rfl) hS0 ?hy63 ?_
  case hy63 => (intro W hW; clear hW; go_simp; try rfl)
  simp only [Act.put, List.setIfInBounds_toArray, List.set_cons_zero, List.set_cons_succ]
  refine takeInH 3 30 ?v64 rfl rfl (by kernel_rfl) (by kernel_rfl) (by kernel_rfl) (fun _ _ _ h => h) (by kernel_rfl) hS0 ?hy64 ?_
  case hy64 => (intro W hW; have e0 := hW.1; have e1 := hW.2; clear hW; go_simp; try rfl)
  simp only [Act.put, List.setIfInBounds_toArray, List.set_cons_zero, List.set_cons_succ]
  refine takeInH 4 31 ?v65 rfl rfl (by kernel_rfl) (by kernel_rfl) (by kernel_rfl) (fun _ _ _ h => h) (by kernel_rfl) hS0 ?hy65 ?_
  case hy65 => (intro W hW; clear hW; go_simp; try rfl)
  simp only [Act.put, List.setIfInBounds_toArray, List.set_cons_zero, List.set_cons_succ]
  refine takeInH 5 32 ?v66 rfl rfl (by kernel_rfl) (by kernel_rfl) (by kernel_rfl) (fun _ _ _ h => h) (by kernel_rfl) hS0 ?hy66 ?_
  case hy66 => (intro W hW; clear hW; go_simp; try rfl)
  simp only [Act.put, List.setIfInBounds_toArray, List.set_cons_zero, List.set_cons_succ]
  refine takeInH 6 33 ?v67 rfl rfl (by kernel_rfl) (by kernel_rfl) (by kernel_rfl) (fun _ _ _ h => h) (by kernel_rfl) hS0 ?hy67 ?_
  case hy67 => (intro W hW; clear hW; go_simp; try rfl)
  simp only [Act.put, List.setIfInBounds_toArray, List.set_cons_zero, List.set_cons_succ]
  refine wpAnyH_ready (rs := [7]) (by kernel_rfl) (by simp) ?_
  refine AllReadyH.cons rfl (fun K hK => ?_) AllReadyH.nil
  go_simp
  refine (framed_as (t + 1) p n c m _ (by omega) (by omega) (BS3.out.1.below (Below.refl _ _).drew) HC.out hn).mono ?_
  rintro e w5 ⟨p5, n5, c5, rfl, hb5, hc5, hb⟩
  have R5 := hide (R4.out.drew.below hb)
  have B5 := hide hb5
  have C5 := hide hc5
  clear hb hb5 hc5
  refine hK.out _ _ ?hs68 (fun hS1 => ?_)
  case hs68 => exact ⟨R5.out.2.2.1.cell 0 _ rfl, R5.out.2.1.cell 0 _ rfl⟩
  clear hK K
  try simp only [Act.put, List.setIfInBounds_toArray, List.set_cons_zero, List.set_cons_succ]
  refine wpAnyH_ready (rs := [8]) (by kernel_rfl) (by simp) ?_
  refine AllReadyH.cons rfl (fun K hK => ?_) AllReadyH.nil
  go_simp
  refine (Append_any 0 p5 n5 c5 _ _ R5.out.1 B5.out C5.out).mono ?_
  rw [HAPP.out]
  rintro e w6 ⟨va6, vb6, rfl, hp, hst, hbl⟩
  have R6 := hide (R5.out.act hp hst hbl)
  clear hp hst hbl R5 B5 C5
  refine hK.out _ _ ?hs69 (fun hS2 => ?_)
  case hs69 => exact ⟨R6.out.2.2.1.cell 0 _ rfl, R6.out.2.1.cell 0 _ rfl⟩
  clear hK K
  refine wpAnyH_ready (rs := [9]) (by kernel_rfl) (by simp) ?_
  refine AllReadyH.cons rfl (fun K hK => ?_) AllReadyH.nil
  have q6 := R6.out.2.2.2.1.cell 0 _ rfl
  have q7 := R6.out.2.2.2.1.free 0
  have R7 := hide (R6.out.seten HN0.out 6)
  go_simp
  refine hK.out _ _ ?hs70 (fun hS3 => ?_)
  case hs70 => exact ⟨R7.out.2.2.1.cell 0 _ rfl, R7.out.2.1.cell 0 _ rfl⟩
  clear hK K
  refine wpAnyH_done (by kernel_rfl) ?_ _
  dsimp only [NoP]
  generalize w6.setCell ⟨w.heap.size + 1, 0, none⟩ (.int .i64 6) = w7 at *
  have a0 := R7.out.2.2.1.cell 0 _ rfl
  have a1 := R7.out.2.1.cell 0 _ rfl
  have a4 := R7.out.2.2.2.1.cell 0 _ rfl
  have f4 := R7.out.2.2.2.1.free 0
  have R11 := hide (R7.out.seten HN0.out 6)
  clear R6 R4 q6 q7 R7
  go_wp2
  clear a0 a1 a4 f4
  generalize w7.setCell ⟨w.heap.size + 1, 0, none⟩ (.int .i64 6) = w11 at *
  refine leaves_cons (f := 55) (args := #[.pointer (some ⟨w.heap.size + 1, 0, none⟩), .pointer (some ⟨w.heap.size, 0, none⟩)]) (by simp) (by simp [go_sem]) ?_
  refine (renew1_bad _ _ jb g 1 t false _ _ _ _ 6 .returning w11 R11.out.2.2.2.1 R11.out.2.2.1 R11.out.2.1 R11.out.1.1 rfl rfl (by decide)).mono ?_
  rw [HST.out]
  rintro e u' w9 ⟨rfl, rfl, rfl⟩
  have R9 := hide (R11.out.told HNJ.out)
  have q9 := R9.out.2.2.2.1.cell 0 _ rfl
  have P9 := hide R9.out.1
  have J9 := hide R9.out.2.1
  have S9 := hide R9.out.2.2.2.2.1
  have L9 := hide R9.out.2.2.2.2.2.1
  clear R9
  generalize (w11.setCell ⟨jb, 3, none⟩ (.bool false)).drew = w9 at *
  first
    | refine ⟨.int .i64 6, ?_, _, _, rfl, P9.out, J9.out, S9.out, L9.out⟩
    | refine ⟨.int .i64 6, ?_, rfl, _, _, P9.out, J9.out, S9.out, L9.out⟩
  simp [results, Try.results44, go_sem, q9]
/-- What comes of a renewal: what it tells, the disk, the slot and the turn. -/
def rnw (d : Dk) (s t : Int) (m : List Int) : Int × Dk × Int × Int := if ((frame7 (t + 1) m).length : Int) > (d.set (1 - s) ⟨[], 0⟩).left then (6, d.set (1 - s) ⟨[], 0⟩, s, t) else (0, d.set (1 - s) ⟨frame7 (t + 1) m, (frame7 (t + 1) m).length⟩, 1 - s, t + 1)
theorem renew_any {N g jb : Nat} {va vb : Value} {d : Dk} {s t : Int} (p : Option Addr) (n c : Nat) (m : List Int) (w : World) (h : PD N g w va vb d) (hs : d.stop = -1) (hj : BJ w jb g s t false) (hN : N ≤ jb) (h01 : s = 0 ∨ s = 1) (ht0 : 0 ≤ t) (ht1 : t < 1099511627776) (hB : BSX (Xs g va vb) w p n m) (hC : CP p n c) (hn : n ≤ 100000000) :
    Calls Try.prog 44 #[.pointer (some ⟨jb, 0, none⟩), .slice p n c] w fun e w' => ∃ va' vb', e = .returned (.int .i64 (rnw d s t m).1) ∧ PD N g w' va' vb' (rnw d s t m).2.1 ∧ BJ w' jb g (rnw d s t m).2.2.1 (rnw d s t m).2.2.2 false ∧ Sp (XJ g va vb jb) (XJ g va' vb' jb) w w' ∧ Below N w w' := by
  unfold rnw
  rcases h01 with rfl | rfl
  · by_cases hl : ((frame7 (t + 1) m).length : Int) > (d.set (1 - 0) ⟨[], 0⟩).left
    · rw [if_pos hl]
      exact renew_0full p n c m w h hs hj hN ht0 ht1 hB hC hn hl
    · rw [if_neg hl]
      exact renew_0ok p n c m w h hs hj hN ht0 ht1 hB hC hn hl
  · by_cases hl : ((frame7 (t + 1) m).length : Int) > (d.set (1 - 1) ⟨[], 0⟩).left
    · rw [if_pos hl]
      exact renew_1full p n c m w h hs hj hN ht0 ht1 hB hC hn hl
    · rw [if_neg hl]
      exact renew_1ok p n c m w h hs hj hN ht0 ht1 hB hC hn hl
end Go.Proofs.Ytofalfaiamaapaa
