/- A journal and what it must have, act by act (layer 7). -/
import Derived.Test.YtofalfaiamaapaaQ11
namespace Go.Proofs.Ytofalfaiamaapaa
open Go.RowKit
set_option linter.unusedVariables false
theorem Dk.set_room (d : Dk) (i : Int) (x : Sl) : (d.set i x).room = d.room := by unfold Dk.set; split <;> rfl
theorem whole_ge (l : List Rc) : (bytesRs l).length ≤ (wholeRs 9 l).length := by
  simp only [wholeRs, List.length_append]
  omega
/-- It is renewed: there was room, or there was none. -/
theorem rnw_step {d : Dk} {s t : Int} {all : List Rc} (h : JI d s t all) (hs : d.stop = -1) (ht : t ≤ 100) (l : List Rc) (hM : ∀ x ∈ l, mayRc x = true) (hB : ∀ x ∈ l, By x.b) :
    ((rnw d s t (bytesRs l)).1 = 0 ∧ JI (rnw d s t (bytesRs l)).2.1 (rnw d s t (bytesRs l)).2.2.1 (rnw d s t (bytesRs l)).2.2.2 l ∧ (rnw d s t (bytesRs l)).2.2.2 = t + 1 ∧ (rnw d s t (bytesRs l)).2.1.stop = -1 ∧ (rnw d s t (bytesRs l)).2.1.room = d.room) ∨
    ((rnw d s t (bytesRs l)).1 = 6 ∧ (rnw d s t (bytesRs l)).2.2 = (s, t) ∧ JI (rnw d s t (bytesRs l)).2.1 s t all ∧ (rnw d s t (bytesRs l)).2.1.left < (wholeRs 9 l).length ∧ (rnw d s t (bytesRs l)).2.1.stop = -1 ∧ (rnw d s t (bytesRs l)).2.1.room = d.room) := by
  have h0 := h.turn
  have hw : frame7 (t + 1) (bytesRs l) = wholeRs (t + 1) l := rfl
  by_cases hl : ((frame7 (t + 1) (bytesRs l)).length : Int) > (d.set (1 - s) ⟨[], 0⟩).left
  · right
    unfold rnw
    rw [if_pos hl]
    rw [hw, whole_len (t + 1) (by omega) (by omega)] at hl
    exact ⟨rfl, rfl, h.full, hl, by rw [Dk.set_stop]; exact hs, Dk.set_room _ _ _⟩
  · left
    unfold rnw
    rw [if_neg hl]
    exact ⟨rfl, h.renew (by omega) l hM hB _, rfl, by rw [Dk.set_stop]; exact hs, Dk.set_room _ _ _⟩
theorem JI.zero {d : Dk} {s : Int} {all : List Rc} (h : JI d s 0 all) : all = [] := by
  rcases h with ⟨_, _, _, _, h⟩ | ⟨h, _⟩
  · exact h
  · omega
def PutOk (d : Dk) (s t : Int) (all all' : List Rc) (l : List Rc) (r : Int × Dk × Int × Int) : Prop :=
  (r.1 = 0 ∧ JI r.2.1 r.2.2.1 r.2.2.2 all' ∧ r.2.2.2 ≤ t + 1 ∧ r.2.1.stop = -1 ∧ r.2.1.room = d.room) ∨
  (r.1 = 6 ∧ r.2.2 = (s, t) ∧ JI r.2.1 s t all ∧ r.2.1.left < (wholeRs 9 l).length ∧ r.2.1.stop = -1 ∧ r.2.1.room = d.room)
theorem put_step {d : Dk} {s t : Int} {all : List Rc} (h : JI d s t all) (hs : d.stop = -1) (ht : t ≤ 100) (l : List Rc) (hm : allMay l = true) (hB : ∀ x ∈ l, By x.b) : PutOk d s t all (all ++ l) l (putJ d s t l) := by
  have hM := (allMay_iff l).1 hm
  unfold putJ
  rw [hm, if_neg (by decide)]
  by_cases h0 : t = 0
  · subst h0
    rw [if_pos rfl, h.zero, List.nil_append]
    rcases rnw_step h hs ht l hM hB with ⟨q1, q2, q3, q4⟩ | ⟨q1, q2, q3, q4⟩
    · exact .inl ⟨q1, q2, by rw [q3]; omega, q4⟩
    · exact .inr ⟨q1, q2, h.zero ▸ q3, q4⟩
  · rw [if_neg h0]
    by_cases hl : l.length = 0
    · rw [if_pos hl]
      obtain rfl : l = [] := List.eq_nil_of_length_eq_zero hl
      rw [List.append_nil]
      exact .inl ⟨rfl, h, by simp only []; omega, hs, rfl⟩
    · rw [if_neg hl]
      by_cases hf : ((bytesRs l).length : Int) > d.left
      · rw [pact_full hs h.slot _ hf]
        exact .inr ⟨rfl, rfl, h, by simp only []; have := whole_ge l; omega, hs, rfl⟩
      · rw [pact_app hs h.slot _ hf]
        exact .inl ⟨rfl, h.put h0 l hM hB _, by simp only []; omega, by simp only []; rw [Dk.set_stop]; exact hs, Dk.set_room _ _ _⟩
theorem ren_step {d : Dk} {s t : Int} {all : List Rc} (h : JI d s t all) (hs : d.stop = -1) (ht : t ≤ 100) (l : List Rc) (hm : allMay l = true) (hB : ∀ x ∈ l, By x.b) : PutOk d s t all l l (renJ d s t l) := by
  have hM := (allMay_iff l).1 hm
  unfold renJ
  rw [hm, if_neg (by decide), if_neg (by omega)]
  rcases rnw_step h hs ht l hM hB with ⟨q1, q2, q3, q4⟩ | ⟨q1, q2, q3, q4⟩
  · exact .inl ⟨q1, q2, by rw [q3]; omega, q4⟩
  · exact .inr ⟨q1, q2, q3, q4⟩
theorem syn_step {d : Dk} {s t : Int} {all : List Rc} (h : JI d s t all) (hs : d.stop = -1) : (synJ d s t).1 = 0 ∧ JI (synJ d s t).2.1 (synJ d s t).2.2.1 (synJ d s t).2.2.2 all ∧ (synJ d s t).2.2.2 = t ∧ (synJ d s t).2.1.stop = -1 ∧ (synJ d s t).2.1.room = d.room := by
  unfold synJ
  by_cases h0 : t = 0
  · rw [if_pos h0]
    exact ⟨rfl, h, rfl, hs, rfl⟩
  · rw [if_neg h0, pact_syn hs h.slot]
    exact ⟨rfl, h.sync _, rfl, by simp only []; rw [Dk.set_stop]; exact hs, Dk.set_room _ _ _⟩
/-- The state of the statement of room: at its k-th act. -/
structure FS (w wr : World) (g jb gw : Nat) (va vb : Value) (d : Dk) (s t : Int) (pa : Option Addr) (na ca : Nat) (A : List Rc) (pm : Option Addr) (cm : Nat) (xs : List Rw) (wt room : Int) (k : Nat) : Prop where
  pd : PD w.heap.size g wr va vb d
  stop : d.stop = -1
  room : d.room = room
  bj : BJ wr jb g s t false
  nj : w.heap.size ≤ jb
  ji : JI d s t (A ++ xs.map Rw.rc)
  tk : t ≤ k
  bg : BX wr gw (WC g jb (.slice pa na ca) (.slice pm xs.length cm) wt) 49
  ng : w.heap.size ≤ gw
  wt0 : 0 ≤ wt
  wt1 : wt ≤ k
  wtz : wt = 0 → A = [] ∧ xs = []
  base : RC w pa na A
  bcap : CP pa na ca
  more : OwnW w.heap.size wr (.slice pm xs.length cm) xs
  body : ∀ x ∈ xs, BS w x.p x.b.length x.b ∧ CP x.p x.b.length x.c
  bel : Below w.heap.size w wr
  len : A.length + xs.length ≤ 10 * k
  kk : k ≤ 30
def FI (w wr : World) (g jb gw : Nat) (room : Int) (k : Nat) : Prop := ∃ va vb d s t pa na ca A pm cm xs wt, FS w wr g jb gw va vb d s t pa na ca A pm cm xs wt room k
theorem FS.below {w wr w' : World} {g jb gw : Nat} {va vb : Value} {d : Dk} {s t : Int} {pa : Option Addr} {na ca : Nat} {A : List Rc} {pm : Option Addr} {cm : Nat} {xs : List Rw} {wt room : Int} {k : Nat} (h : FS w wr g jb gw va vb d s t pa na ca A pm cm xs wt room k) (hb : Below wr.heap.size wr w') : FS w w' g jb gw va vb d s t pa na ca A pm cm xs wt room k :=
  { h with pd := h.pd.below hb, bj := h.bj.below hb, bg := h.bg.below hb, more := h.more.below hb, bel := bel_next h.bel hb }
theorem FS.next {w wr : World} {g jb gw : Nat} {va vb : Value} {d : Dk} {s t : Int} {pa : Option Addr} {na ca : Nat} {A : List Rc} {pm : Option Addr} {cm : Nat} {xs : List Rw} {wt room : Int} {k : Nat} (h : FS w wr g jb gw va vb d s t pa na ca A pm cm xs wt room k) (hk : k < 30) : FI w wr g jb gw room (k + 1) :=
  ⟨va, vb, d, s, t, pa, na, ca, A, pm, cm, xs, wt, { h with tk := by have := h.tk; omega, wt1 := by have := h.wt1; omega, len := by have := h.len; omega, kk := hk }⟩
/-- What the act's blocks are not. -/
theorem FS.off {w wr w' : World} {g jb gw : Nat} {va vb : Value} {d : Dk} {s t : Int} {pa : Option Addr} {na ca : Nat} {A : List Rc} {pm : Option Addr} {cm : Nat} {xs : List Rw} {wt room : Int} {k : Nat} (h : FS w wr g jb gw va vb d s t pa na ca A pm cm xs wt room k) {X' : Nat → Prop} (sp : Sp (XW g va vb jb gw) X' wr w') : OwnW w.heap.size w' (.slice pm xs.length cm) xs ∧ ∀ cw C, BX wr cw C 49 → cw ≠ gw → BX w' cw C 49 := by
  refine ⟨OwnR.sp h.more sp fun b hb hq => ?_, fun cw C hc hne => hc.sp sp ?_⟩
  · rcases hq with ((rfl | q | q) | rfl) | rfl
    · exact h.more.off h.pd.1 (by decide) hb
    · exact own_apart (Own.rows.1 h.pd.2.1) h.more (by decide) b hb q
    · exact own_apart (Own.rows.1 h.pd.2.2.1) h.more (by decide) b hb q
    · exact h.more.off h.bj (by decide) hb
    · exact h.more.off h.bg (by decide) hb
  · rintro ((q | q) | q)
    · exact h.pd.notx hc (by decide) (by decide) q
    · exact h.bj.diff hc (by decide) q.symm
    · exact hne q
/-- What an act may tell, and leave. -/
def StepOk (w wr : World) (g jb gw : Nat) (s t : Int) (pm : Option Addr) (cm : Nat) (xs : List Rw) (all : List Rc) (room : Int) (k : Nat) (l : List Rc) (e : Ending) (w' : World) : Prop :=
  (∀ cw C, BX wr cw C 49 → cw ≠ gw → BX w' cw C 49) ∧
  ((e = .returned (.bool true) ∧ FI w w' g jb gw room (k + 1)) ∨
   (e = .returned (.bool false) ∧ allMay l = true ∧ OwnW w.heap.size w' (.slice pm xs.length cm) xs ∧ Below w.heap.size w w' ∧ ∃ va vb d v2 v3 v4, PD w.heap.size g w' va vb d ∧ d.stop = -1 ∧ d.room = room ∧ BJ w' jb g s t false ∧ JI d s t all ∧ d.left < (wholeRs 9 l).length ∧ BX w' gw #[.pointer (some ⟨g, 0, none⟩), .pointer (some ⟨jb, 0, none⟩), v2, v3, v4] 49))
set_option maxHeartbeats 1000000 in
theorem do_step {w wr : World} {g jb gw : Nat} {va vb : Value} {d : Dk} {s t : Int} {pa : Option Addr} {na ca : Nat} {A : List Rc} {pm : Option Addr} {cm : Nat} {xs : List Rw} {wt room : Int} {k : Nat} (h : FS w wr g jb gw va vb d s t pa na ca A pm cm xs wt room k) (hk : k < 30) (o : Int) (ho : o ≠ 3) (p : Option Addr) (n c : Nat) (l : List Rc) (hA : RC w p n l) (hC : CP p n c) (hn : n ≤ 10) (hbig : (bytesRs l).length ≤ 100000000) :
    Calls Try.prog 18 #[.pointer (some ⟨gw, 0, none⟩), .agg #[.int .i64 o, .slice p n c]] wr (StepOk w wr g jb gw s t pm cm xs (A ++ xs.map Rw.rc) room k l) := by
  have hln : l.length = n := hA.len
  have hB := hA.byB
  have hkk := h.kk
  have htk := h.tk
  have hlen := h.len
  -- the state behind an act that turned nothing of the statement's own
  have same : ∀ (r : Int × Dk × Int × Int) (w' : World) (e : Ending), JI r.2.1 r.2.2.1 r.2.2.2 (A ++ xs.map Rw.rc) → r.2.2.2 ≤ t + 1 → r.2.1.stop = -1 → r.2.1.room = d.room → DP w.heap.size g jb gw va vb wr r (WC g jb (.slice pa na ca) (.slice pm xs.length cm) wt) true e w' → StepOk w wr g jb gw s t pm cm xs (A ++ xs.map Rw.rc) room k l e w' := by
    rintro r w' e j1 j2 j3 j4 ⟨va', vb', rfl, q1, q2, q3, q4, q5⟩
    obtain ⟨o1, o2⟩ := h.off q4
    exact ⟨o2, .inl ⟨rfl, va', vb', _, _, _, pa, na, ca, A, pm, cm, xs, wt, ⟨q1, j3, j4.trans h.room, q2, h.nj, j1, by omega, q3, h.ng, h.wt0, by have := h.wt1; omega, h.wtz, h.base, h.bcap, o1, h.body, h.bel.trans q5, by omega, hk⟩⟩⟩
  -- the state behind one for which there was no room
  have fails : ∀ (r : Int × Dk × Int × Int) (w' : World) (e : Ending) (v2 v3 v4 : Value), allMay l = true → r.2.2 = (s, t) → JI r.2.1 s t (A ++ xs.map Rw.rc) → r.2.1.left < (wholeRs 9 l).length → r.2.1.stop = -1 → r.2.1.room = d.room → DP w.heap.size g jb gw va vb wr r #[.pointer (some ⟨g, 0, none⟩), .pointer (some ⟨jb, 0, none⟩), v2, v3, v4] false e w' → StepOk w wr g jb gw s t pm cm xs (A ++ xs.map Rw.rc) room k l e w' := by
    rintro r w' e v2 v3 v4 hm r2 j1 j2 j3 j4 ⟨va', vb', rfl, q1, q2, q3, q4, q5⟩
    obtain ⟨o1, o2⟩ := h.off q4
    rw [r2] at q2
    exact ⟨o2, .inr ⟨rfl, hm, o1, h.bel.trans q5, va', vb', _, v2, v3, v4, q1, j3, j4.trans h.room, q2, j1, j2, q3⟩⟩
  by_cases h0 : o = 0
  · subst h0
    by_cases hm : allMay l = true
    · have pj := put_step h.ji h.stop (by omega) l hm hB
      by_cases hw : wt = 0
      · obtain ⟨rfl, rfl⟩ := h.wtz hw
        by_cases hn0 : 0 < n
        · refine (do0_base p n c l wr h.pd h.stop h.bj h.nj h.ji.slot h.ji.turn (by omega) h.bg h.ng hA h.bel rfl hC hbig hm hw hn0).mono ?_
          intro e w' hd
          rcases pj with ⟨r1, r2, r3, r4, r5⟩ | ⟨r1, r2, r3, r4, r5, r6⟩
          · rw [r1] at hd
            obtain ⟨va', vb', rfl, q1, q2, q3, q4, q5⟩ := hd
            obtain ⟨o1, o2⟩ := h.off q4
            refine ⟨o2, .inl ⟨rfl, va', vb', _, _, _, p, n, c, l, pm, cm, [], 1, ⟨q1, r4, r5.trans h.room, q2, h.nj, by simpa using r2, by omega, q3, h.ng, by decide, by omega, fun q => absurd q (by decide), hA, hC, o1, fun x hx => by simp at hx, h.bel.trans q5, by simp; omega, hk⟩⟩⟩
          · rw [r1] at hd
            exact fails _ w' e _ _ _ hm r2 r3 r4 r5 r6 hd
        · refine (do0_none p n c l wr h.pd h.stop h.bj h.nj h.ji.slot h.ji.turn (by omega) h.bg h.ng hA h.bel rfl hC hbig hm hw (by omega) [] pm 0 cm w.heap.size rfl h.more (by simp; omega)).mono ?_
          rintro e w' ⟨V', ys, hd, ho2, hy1, hy2⟩
          have hy0 : ys = [] := by
            have := congrArg List.length hy1
            rw [List.length_map, hln] at this
            exact List.eq_nil_of_length_eq_zero (by omega)
          subst hy0
          obtain ⟨p', c', rfl, _, _⟩ := ho2.open encW_len
          rcases pj with ⟨r1, r2, r3, r4, r5⟩ | ⟨r1, r2, r3, r4, r5, r6⟩
          · rw [r1] at hd
            obtain ⟨va', vb', rfl, q1, q2, q3, q4, q5⟩ := hd
            obtain ⟨o1, o2⟩ := h.off q4
            refine ⟨o2, .inl ⟨rfl, va', vb', _, _, _, pa, na, ca, [], p', c', [], wt, ⟨q1, r4, r5.trans h.room, q2, h.nj, ?_, by omega, q3, h.ng, h.wt0, by omega, fun _ => ⟨rfl, rfl⟩, h.base, h.bcap, ho2.mono h.bel.size, fun x hx => by simp at hx, h.bel.trans q5, by simp, hk⟩⟩⟩
            have : l = [] := List.eq_nil_of_length_eq_zero (by omega)
            subst this
            simpa using r2
          · rw [r1] at hd
            exact fails _ w' e _ _ _ hm r2 r3 r4 r5 r6 hd
      · refine (do0_more p n c l wr h.pd h.stop h.bj h.nj h.ji.slot h.ji.turn (by omega) h.bg h.ng hA h.bel rfl hC hbig hm hw xs pm _ cm w.heap.size rfl h.more (by omega)).mono ?_
        rintro e w' ⟨V', ys, hd, ho2, hy1, hy2⟩
        obtain ⟨p', c', rfl, _, _⟩ := ho2.open encW_len
        have hyl : ys.length = n := by rw [← hln, ← hy1, List.length_map]
        rcases pj with ⟨r1, r2, r3, r4, r5⟩ | ⟨r1, r2, r3, r4, r5, r6⟩
        · rw [r1] at hd
          obtain ⟨va', vb', rfl, q1, q2, q3, q4, q5⟩ := hd
          obtain ⟨o1, o2⟩ := h.off q4
          refine ⟨o2, .inl ⟨rfl, va', vb', _, _, _, pa, na, ca, A, p', c', xs ++ ys, wt, ⟨q1, r4, r5.trans h.room, q2, h.nj, by rw [List.map_append, hy1, ← List.append_assoc]; exact r2, by omega, q3, h.ng, h.wt0, by have := h.wt1; omega, fun q => absurd q hw, h.base, h.bcap, ho2.mono h.bel.size, fun x hx => (List.mem_append.1 hx).elim (h.body x) (hy2 x), h.bel.trans q5, by rw [List.length_append]; omega, hk⟩⟩⟩
        · rw [r1] at hd
          exact fails _ w' e _ _ _ hm r2 r3 r4 r5 r6 hd
    · refine (do0_bad p n c l wr h.pd h.stop h.bj h.nj h.ji.slot h.ji.turn (by omega) h.bg h.ng hA h.bel rfl hC hbig (by simpa using hm)).mono ?_
      intro e w' hd
      exact same _ w' e h.ji (by simp only []; omega) h.stop rfl hd
  · by_cases h1 : o = 1
    · subst h1
      have sj := syn_step h.ji h.stop
      refine (do1 p n c l wr h.pd h.stop h.bj h.nj h.ji.slot h.ji.turn (by omega) h.bg h.ng hA h.bel rfl hC hbig).mono ?_
      intro e w' hd
      rw [sj.1] at hd
      exact same _ w' e sj.2.1 (by rw [sj.2.2.1]; omega) sj.2.2.2.1 sj.2.2.2.2 hd
    · by_cases h2 : o = 2
      · subst h2
        by_cases hm : allMay l = true
        · have pj := ren_step h.ji h.stop (by omega) l hm hB
          refine (do2 p n c l wr h.pd h.stop h.bj h.nj h.ji.slot h.ji.turn (by omega) h.bg h.ng hA h.bel rfl hC hbig hm h.wt0 (by have := h.wt1; omega)).mono ?_
          intro e w' hd
          rcases pj with ⟨r1, r2, r3, r4, r5⟩ | ⟨r1, r2, r3, r4, r5, r6⟩
          · rw [r1] at hd
            obtain ⟨va', vb', rfl, q1, q2, q3, q4, q5⟩ := hd
            obtain ⟨o1, o2⟩ := h.off q4
            exact ⟨o2, .inl ⟨rfl, va', vb', _, _, _, p, n, c, l, none, 0, [], wt + 1, ⟨q1, r4, r5.trans h.room, q2, h.nj, by simpa using r2, by omega, q3, h.ng, by have := h.wt0; omega, by have := h.wt1; omega, fun q => absurd q (by have := h.wt0; omega), hA, hC, OwnR.nil _ _, fun x hx => by simp at hx, h.bel.trans q5, by simp; omega, hk⟩⟩⟩
          · rw [r1] at hd
            exact fails _ w' e _ _ _ hm r2 r3 r4 r5 r6 hd
        · refine (do2_bad p n c l wr h.pd h.stop h.bj h.nj h.ji.slot h.ji.turn (by omega) h.bg h.ng hA h.bel rfl hC hbig (by simpa using hm)).mono ?_
          intro e w' hd
          exact same _ w' e h.ji (by simp only []; omega) h.stop rfl hd
      · refine (doX p n c l wr h.pd h.stop h.bj h.nj h.ji.slot h.ji.turn (by omega) h.bg h.ng hA h.bel rfl hC hbig o ⟨h0, h1, h2, ho⟩).mono ?_
        intro e w' hd
        exact same _ w' e h.ji (by simp only []; omega) h.stop rfl hd
set_option maxHeartbeats 1000000 in
theorem begin_any (room : Int) (w : World) (h0 : 0 ≤ room) (h1 : room ≤ 1048576) : Calls Try.prog 15 #[.int .i64 room] w fun e w' => ∃ jb gw, e = .returned (.tuple #[.pointer (some ⟨gw, 0, none⟩), .bool true]) ∧ PD w.heap.size w.heap.size w' (.slice none 0 0) (.slice none 0 0) (newD room) ∧ BJ w' jb w.heap.size 1 0 false ∧ w.heap.size ≤ jb ∧ BX w' gw (WC w.heap.size jb (.slice none 0 0) (.slice none 0 0) 0) 49 ∧ w.heap.size ≤ gw ∧ Below w.heap.size w w' := by
  go_enter Try.func15, Try.ntmps15
  go_wp2_with fail
  refine (New_any room w h0 h1).mono ?_
  rintro e w1 ⟨rfl, hp, hb⟩
  have P1 := hide hp
  have B1 := hide hb
  clear hp hb
  go_wp2_with fail
  refine (Open_JI w1 P1.out rfl (Nat.zero_le _) (Nat.zero_le _) (JI.new room) (by decide)).mono ?_
  rintro e w2 ⟨p2, n2, c2, rfl, hrc, hcp, hp, hj, hb⟩
  obtain rfl : n2 = 0 := hrc.1.symm
  have P2 := hide hp
  have J2 := hide hj
  have B2 := hide (bel_next B1.out hb)
  have Z1 := hide B1.out.size
  have Z2 := hide B2.out.size
  have hbb := hide (bel1 w2 (.cells (WC w.heap.size w1.heap.size (.slice none 0 0) (.slice none 0 0) 0) 49))
  clear hrc hcp hp hj hb P1 B1
  go_wp2
  refine bodyPost_ret (results_tmp2 rfl _ _ _) rfl ?_
  exact ⟨_, _, rfl, P2.out.below hbb.out, J2.out.below hbb.out, Z1.out, BX.new w2 _ rfl _ _, Z2.out, bel_next B2.out hbb.out⟩
end Go.Proofs.Ytofalfaiamaapaa
