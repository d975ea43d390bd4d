/- What the theorem of rights (layer 11) keeps from step to step. -/
import Derived.Test.YtbihgcmnllajpaaGEk
namespace Go.Proofs.Ytbihgcmnllajpaa
open Go.RowKit Go.Lib
set_option linter.unusedVariables false
section
variable {α β : Type} {enc : α → List Value} {enc' : β → List Value} {k k' : Nat} {T T' : TypeId}
theorem OwnR.grown {N : Nat} {w w' : World} {r : Option Nat} {v : Value} {l : List α} (h : OwnR enc k T N w v l) (hg : w.grownBy w' r) (hr : ∀ g, v.ownBlock = some g → r ≠ some g) : OwnR enc k T N w' v l := by
  refine ⟨h.1, ?_⟩
  rcases h.2 with hn | ⟨g, cap, cur, rfl, hb', hgg, rest⟩
  · exact .inl hn
  · refine .inr ⟨g, cap, cur, rfl, hb', ?_, rest⟩
    rw [hg.block g (Array.getElem?_eq_some_iff.1 hgg).1 (fun e => hr g (by simp [Value.ownBlock]) e.symm)]
    exact hgg
theorem OwnR.apart {N N' : Nat} {w : World} {v v' : Value} {l : List α} {l' : List β} (h : OwnR enc k T N w v l) (h' : OwnR enc' k' T' N' w v' l') (hne : T ≠ T') : ∀ g, v.ownBlock = some g → v'.ownBlock ≠ some g := by
  intro g e e'
  rcases h.2 with ⟨rfl, _⟩ | ⟨g1, cap, cur, rfl, _, hg, _⟩
  · simp [Value.ownBlock] at e
  · rcases h'.2 with ⟨rfl, _⟩ | ⟨g2, cap2, cur2, rfl, _, hg2, _⟩
    · simp [Value.ownBlock] at e'
    · simp [Value.ownBlock] at e e'
      subst e
      subst e'
      rw [hg] at hg2
      simp at hg2
      exact hne hg2.2
theorem OwnR.old {N : Nat} {w : World} {v : Value} {l : List α} (h : OwnR enc k T N w v l) {g : Nat} (hg : w.heap.size ≤ g) : v.ownBlock ≠ some g := by
  rcases h.2 with ⟨rfl, _⟩ | ⟨g1, cap, cur, rfl, _, hgg, _⟩
  · intro hh; simp [Value.ownBlock] at hh
  · intro hh
    simp [Value.ownBlock] at hh
    have := (Array.getElem?_eq_some_iff.1 hgg).1
    omega
end
/-- A table's cells. -/
def cells36 (K : Nat → Nat → Nat) : Array Value := ((List.range 36).map (fun j => Value.int .i64 (K (j / 6) (j % 6) : Nat))).toArray
theorem cells36_get (K : Nat → Nat → Nat) (j : Nat) (hj : j < 36) : (cells36 K)[j]? = some (.int .i64 (K (j / 6) (j % 6) : Nat)) := by
  unfold cells36
  rw [List.getElem?_toArray, List.getElem?_map, List.getElem?_range hj]
  rfl
theorem cells36_none (K : Nat → Nat → Nat) (j : Nat) (hj : ¬ j < 36) : (cells36 K)[j]? = none := by
  rw [Array.getElem?_eq_none]
  unfold cells36
  simp
  omega
theorem cells36_at (K : Nat → Nat → Nat) {q r : Nat} (hq : q < 6) (hr : r < 6) : (cells36 K)[q * 6 + r]? = some (.int .i64 (K q r : Nat)) := by
  rw [cells36_get K _ (by omega), show (q * 6 + r) / 6 = q by omega, show (q * 6 + r) % 6 = r by omega]
theorem cells36_set (K : Nat → Nat → Nat) {q r : Nat} (hq : q < 6) (hr : r < 6) (v : Nat) : (cells36 K).setIfInBounds (q * 6 + r) (.int .i64 (v : Nat)) = cells36 (tab K q (more (K q) r v)) := by
  apply Array.ext_getElem?
  intro j
  rw [Array.getElem?_setIfInBounds]
  have hsz : (cells36 K).size = 36 := by unfold cells36; simp
  by_cases hj : j < 36
  · by_cases e : q * 6 + r = j
    · subst e
      rw [if_pos rfl, if_pos (by rw [hsz]; exact hj), cells36_get _ _ hj, show (q * 6 + r) / 6 = q by omega, show (q * 6 + r) % 6 = r by omega]
      unfold tab more
      rw [if_pos rfl, if_pos rfl]
    · rw [if_neg e, cells36_get _ j hj, cells36_get _ j hj]
      unfold tab more
      by_cases e1 : j / 6 = q
      · rw [if_pos e1, if_neg (by omega), e1]
      · rw [if_neg e1]
  · rw [cells36_none _ j hj, if_neg (by omega), cells36_none _ j hj]
theorem cells36_zero : cells36 (fun _ _ => 0) = #[.int .i64 0, .int .i64 0, .int .i64 0, .int .i64 0, .int .i64 0, .int .i64 0, .int .i64 0, .int .i64 0, .int .i64 0, .int .i64 0, .int .i64 0, .int .i64 0, .int .i64 0, .int .i64 0, .int .i64 0, .int .i64 0, .int .i64 0, .int .i64 0, .int .i64 0, .int .i64 0, .int .i64 0, .int .i64 0, .int .i64 0, .int .i64 0, .int .i64 0, .int .i64 0, .int .i64 0, .int .i64 0, .int .i64 0, .int .i64 0, .int .i64 0, .int .i64 0, .int .i64 0, .int .i64 0, .int .i64 0, .int .i64 0] := by rfl
/-- A row's numbers joined as far as one is through. -/
def jn (K : Nat → Nat → Nat) (q f j : Nat) : Nat → Nat → Nat := tab K q (fun r => if r < j then max (K q r) (K f r) else K q r)
theorem jn_q (K : Nat → Nat → Nat) (q f j : Nat) : jn K q f j q j = K q j := by
  unfold jn tab
  rw [if_pos rfl, if_neg (Nat.lt_irrefl _)]
theorem jn_f (K : Nat → Nat → Nat) (q f j : Nat) : jn K q f j f j = K f j := by
  unfold jn tab
  split
  · rename_i e; subst e; dsimp only; rw [if_neg (Nat.lt_irrefl _)]
  · rfl
theorem jn_one (K : Nat → Nat → Nat) (q f : Nat) (h1 : K q 0 = 0) (h2 : K f 0 = 0) : jn K q f 1 = K := by
  funext a r
  unfold jn tab
  split
  · rename_i e
    subst e
    dsimp only
    split
    · obtain rfl : r = 0 := by omega
      omega
    · rfl
  · rfl
theorem jn_step (K : Nat → Nat → Nat) (q f j : Nat) : tab (jn K q f j) q (more (jn K q f j q) j (max (K q j) (K f j))) = jn K q f (j + 1) := by
  funext a r
  unfold jn tab more
  by_cases e : a = q
  · subst e
    rw [if_pos rfl, if_pos rfl, if_pos rfl]
    by_cases e2 : r = j
    · subst e2
      rw [if_pos rfl, if_pos (by omega)]
    · rw [if_neg e2]
      by_cases e3 : r < j
      · rw [if_pos e3, if_pos (by omega)]
      · rw [if_neg e3, if_neg (by omega)]
  · rw [if_neg e, if_neg e, if_neg e]
theorem jn_skip {K : Nat → Nat → Nat} {q f j : Nat} (h : K f j ≤ K q j) : jn K q f j = jn K q f (j + 1) := by
  funext a r
  unfold jn tab
  split
  · rename_i e
    subst e
    dsimp only
    by_cases e3 : r < j
    · rw [if_pos e3, if_pos (by omega)]
    · rw [if_neg e3]
      by_cases e4 : r = j
      · subst e4
        rw [if_pos (by omega)]
        omega
      · rw [if_neg (by omega)]
  · rfl
theorem jn_six {K : Nat → Nat → Nat} {q f : Nat} (h1 : ∀ r, 6 ≤ r → K q r = 0) (h2 : ∀ r, 6 ≤ r → K f r = 0) : jn K q f 6 = tab K q (fun r => max (K q r) (K f r)) := by
  funext a r
  unfold jn tab
  split
  · dsimp only
    split
    · rfl
    · have := h1 r (by omega)
      have := h2 r (by omega)
      omega
  · rfl
theorem cntG_none {r : Nat} : ∀ {l : List Gd}, (∀ d ∈ l, d.rep ≠ r) → cntG r l = 0
  | [], _ => rfl
  | d :: l, h => by
    rw [cntG, if_neg (h d List.mem_cons_self), cntG_none (fun x hx => h x (List.mem_cons_of_mem _ hx))]
theorem WfG.rep {l : List Gd} (h : WfG l) : ∀ d ∈ l, 1 ≤ d.rep ∧ d.rep ≤ 5 := by
  intro d hd
  obtain ⟨j, hj⟩ := List.mem_iff_getElem?.1 hd
  exact (h j d hj).2.1
theorem WfG.all {l : List Gd} (h : WfG l) : ∀ d ∈ l, -9 ≤ d.n ∧ d.n ≤ 9 := by
  intro d hd
  obtain ⟨j, hj⟩ := List.mem_iff_getElem?.1 hd
  exact (h j d hj).2.2.2.1
theorem WfG.nil : WfG [] := fun i d h => by simp at h
theorem WfG.snoc {l : List Gd} (h : WfG l) {d : Gd} (hm : d.m = cntG d.rep l + 1) (hr : 1 ≤ d.rep ∧ d.rep ≤ 5) (ht : d.tgt ≤ 5) (hn : -9 ≤ d.n ∧ d.n ≤ 9) (hp : d.tgt ≠ 0 → 1 ≤ d.n) : WfG (l ++ [d]) := by
  intro i x hx
  rcases Nat.lt_or_ge i l.length with hi | hi
  · rw [List.getElem?_append_left hi] at hx
    rw [List.take_append_of_le_length (by omega)]
    exact h i x hx
  · rw [List.getElem?_append_right hi] at hx
    have e : i = l.length := by
      have := (List.getElem?_eq_some_iff.1 hx).1
      simp at this
      omega
    subst e
    simp at hx
    subst hx
    rw [List.take_append_of_le_length (Nat.le_refl _), List.take_length]
    exact ⟨hm, hr, ht, hn, hp⟩
/-- No replica knows of deeds of none. -/
theorem EI.zero {base : Nat → Int} {l : List Gd} {K : Nat → Nat → Nat} (h : EI base l K) (hw : WfG l) (q : Nat) {r : Nat} (hr : r = 0 ∨ 6 ≤ r) : K q r = 0 := by
  have h1 := h.few q r
  rw [cntG_none (fun d hd => by have := hw.rep d hd; omega)] at h1
  omega
theorem EI.small {base : Nat → Int} {l : List Gd} {K : Nat → Nat → Nat} (h : EI base l K) (hl : l.length ≤ 24) (q r : Nat) : K q r ≤ 24 := by
  have h1 := h.few q r
  have h2 := cntG_len r l
  omega
/-- Joined with another's: what is kept. -/
theorem EI.jn {base : Nat → Int} {l : List Gd} {K : Nat → Nat → Nat} (h : EI base l K) (hw : WfG l) (q f : Nat) : EI base l (jn K q f 6) := by
  rw [jn_six (fun r hr => h.zero hw q (.inr hr)) (fun r hr => h.zero hw f (.inr hr))]
  exact h.join q f
abbrev T24 : TypeId := 24
abbrev T44 : TypeId := 44
/-- What the theorem's loop keeps in memory: deeds, whose they are, who knows how many. -/
structure HM (N : Nat) (w0 wr : World) (gt : Nat) (L : List Gd) (K : Nat → Nat → Nat) (v6 v7 : Value) : Prop where
  o6 : OwnR encDd 4 24 N wr v6 L
  o7 : OwnR encOf 1 3 N wr v7 L
  tb : BX wr gt (cells36 K) 44
  bl : Below N w0 wr
  gn : N ≤ gt
theorem HM.below {N : Nat} {w0 wr wx : World} {gt : Nat} {L : List Gd} {K : Nat → Nat → Nat} {v6 v7 : Value} (h : HM N w0 wr gt L K v6 v7) (hN : N ≤ wr.heap.size) (hb : Below wr.heap.size wr wx) : HM N w0 wx gt L K v6 v7 := ⟨h.o6.below hb, h.o7.below hb, h.tb.below hb, h.bl.trans (hb.mono hN), h.gn⟩
theorem HM.drew {N : Nat} {w0 wr : World} {gt : Nat} {L : List Gd} {K : Nat → Nat → Nat} {v6 v7 : Value} (h : HM N w0 wr gt L K v6 v7) : HM N w0 wr.drew gt L K v6 v7 := ⟨h.o6.drew, h.o7.drew, h.tb.drew, h.bl.drew, h.gn⟩
theorem HM.size {N : Nat} {w0 wr : World} {gt : Nat} {L : List Gd} {K : Nat → Nat → Nat} {v6 v7 : Value} (h : HM N w0 wr gt L K v6 v7) : N ≤ wr.heap.size := Nat.le_trans h.gn (Nat.le_of_lt h.tb.size)
theorem HM.put {N : Nat} {w0 wr : World} {gt : Nat} {L : List Gd} {K : Nat → Nat → Nat} {v6 v7 : Value} (h : HM N w0 wr gt L K v6 v7) {q r : Nat} (hq : q < 6) (hr : r < 6) (v : Nat) : HM N w0 (wr.setCell ⟨gt, q * 6 + r, none⟩ (.int .i64 (v : Nat))) gt L (tab K q (more (K q) r v)) v6 v7 := by
  refine ⟨h.o6.set (h.o6.off h.tb (by decide)) _ _, h.o7.set (h.o7.off h.tb (by decide)) _ _, ?_, h.bl.setCell h.gn _, h.gn⟩
  have := h.tb.set (q * 6 + r) (.int .i64 (v : Nat))
  rwa [cells36_set K hq hr] at this
theorem HM.rows {N : Nat} {w0 wr : World} {gt : Nat} {L : List Gd} {K : Nat → Nat → Nat} {p6 p7 : Option Addr} {n c6 c7 : Nat} (h : HM N w0 wr gt L K (.slice p6 n c6) (.slice p7 n c7)) : RS encDd 4 wr p6 n L ∧ RS encOf 1 wr p7 n L := by
  obtain ⟨p, c, e, q, _⟩ := h.o6.open encDd_len
  obtain ⟨p', c', e', q', _⟩ := h.o7.open encOf_len
  cases e
  cases e'
  exact ⟨q, q'⟩
/-- A cell of another block is written. -/
theorem HM.far {N : Nat} {w0 wr : World} {gt : Nat} {L : List Gd} {K : Nat → Nat → Nat} {v6 v7 : Value} (h : HM N w0 wr gt L K v6 v7) {g : Nat} (h6 : v6.ownBlock ≠ some g) (h7 : v7.ownBlock ≠ some g) (hg : g ≠ gt) (hN : N ≤ g) (i : Nat) (v : Value) : HM N w0 (wr.setCell ⟨g, i, none⟩ v) gt L K v6 v7 := ⟨h.o6.set h6 i v, h.o7.set h7 i v, h.tb.other hg i v, h.bl.setCell hN _, h.gn⟩
theorem Try.infoDd : (Try.prog.info? 24).map (fun i => (i.zero, i.size, i.bytes)) = some (some (.agg #[.string ⟨#[]⟩, .int .i64 0, .int .i64 0, .int .i64 0]), 4, 40) := by kernel_rfl
theorem Try.infoOf : (Try.prog.info? 3).map (fun i => (i.zero, i.size, i.bytes)) = some (some (.int .i64 0), 1, 8) := by kernel_rfl
/-- What is told of a memory. -/
theorem told_num {low : Int} {l : List Gd} {K : Nat → Nat → Nat} (h : EI (baseA low) l K) (hw : WfG l) (hl : l.length ≤ 24) (q : Nat) : low ≤ num11 (knA kK (K q) l) kK := by
  rw [num11_yes (knA_may kK_may hl hw.all)]
  exact knA_floor h q
theorem told_rgt {low : Int} {l : List Gd} {K : Nat → Nat → Nat} (h : EI (baseA low) l K) (hw : WfG l) (hl : l.length ≤ 24) (hf : -1000 ≤ low ∧ low ≤ 0) (q : Nat) {j : Nat} (hj : 1 ≤ j ∧ j ≤ 5) : 0 ≤ rgt11 (knA kK (K q) l) kK (j : Int) low := by
  unfold rgt11
  rw [knA_may kK_may hl hw.all, show okRep (j : Int) = true from decide_eq_true (by omega), show okFlo low = true from decide_eq_true hf]
  exact knA_rights h q hj
/-- What is let be done. -/
theorem told_may {low : Int} {l : List Gd} {K : Nat → Nat → Nat} (hw : WfG l) (hl : l.length ≤ 24) (hf : -1000 ≤ low ∧ low ≤ 0) {q : Nat} (hq : 1 ≤ q ∧ q ≤ 5) {x : Int} (hx : 1 ≤ x ∧ x ≤ 9) : may11 (knA kK (K q) l) kK (q : Int) low x = if rgtA (havA (knA kK (K q) l) kK) q low < x then 5 else 0 := by
  unfold may11
  rw [knA_may kK_may hl hw.all, kK_may, show okRep (q : Int) = true from decide_eq_true (by omega), show okFlo low = true from decide_eq_true hf, show okMuch x = true from decide_eq_true (by omega)]
  rfl
end Go.Proofs.Ytbihgcmnllajpaa
