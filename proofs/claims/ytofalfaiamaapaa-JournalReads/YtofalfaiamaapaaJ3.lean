/- What stands in a slot's bytes, in plain mathematics; rows of records that the call made (layer 7). -/
import Derived.Test.YtofalfaiamaapaaJ2
namespace Go.Proofs.Ytofalfaiamaapaa
open Go.RowKit
set_option linter.unusedVariables false
/-- The records that bytes begin with, each with where it ends. -/
def recsE : Nat → Nat → List Int → List (Rc × Nat)
  | 0, _, _ => []
  | f + 1, p, l => if (getRecord l).2.2.2 = 0 then (⟨(getRecord l).1, (getRecord l).2.1⟩, p + (getRecord l).2.2.1) :: recsE f (p + (getRecord l).2.2.1) (l.drop (getRecord l).2.2.1) else []
def goF : List (Rc × Nat) → Bool → List Rc → Nat → Bool × List Rc × Nat
  | [], w, r, e => (w, r, e)
  | (x, n) :: t, w, r, e => if x.k = 2 ∧ x.b.length = 0 ∧ w = false then goF t true r n else if 10 ≤ x.k then goF t w (r ++ [x]) n else (w, r, e)
/-- What a slot has: its turn (0: it is not whole), its records, and how many bytes they have. -/
def scanOf : List (Rc × Nat) → Int × List Rc × Nat
  | [] => (0, [], 0)
  | (x, _) :: t => if x.k ≠ 1 then (0, [], 0) else match getNum x.b with
    | none => (0, [], 0)
    | some (u, m) => if m ≠ x.b.length ∨ u < 1 ∨ 1099511627776 < u then (0, [], 0) else if (goF t false [] 0).1 then (u, (goF t false [] 0).2) else (0, [], 0)
def scanRs (l : List Int) : Int × List Rc × Nat := scanOf (recsE (l.length + 1) 0 l)
theorem getRecord_ok {l : List Int} (hb : By l) (h : (getRecord l).2.2.2 = 0) : 1 ≤ (getRecord l).2.2.1 ∧ (getRecord l).2.2.1 ≤ l.length ∧ 1 ≤ (getRecord l).1 ∧ (getRecord l).1 ≤ 200 ∧ (getRecord l).2.1.length ≤ 65536 ∧ By (getRecord l).2.1 := by
  match l, hb, h with
  | [], _, h => simp [getRecord] at h
  | k :: r, hb, h =>
    simp only [getRecord] at h ⊢
    split at h
    · simp at h
    · rename_i hk
      rw [if_neg hk]
      split at h
      · rename_i hs
        exact absurd h hs
      · rename_i hs
        have hs' : (getSize r).2.2 = 0 := by
          by_cases q : (getSize r).2.2 = 0
          · exact q
          · exact absurd q hs
        rw [if_neg hs]
        obtain ⟨s, m, e1, e2, e3, e4, e5, e6⟩ := getSize_ok (fun n hn => hb n (List.mem_cons_of_mem _ hn)) hs'
        split at h
        · simp at h
        · rename_i hl
          rw [if_neg hl]
          split at h
          · rename_i hq
            rw [if_pos hq]
            rw [e1] at hl ⊢
            simp only [] at hl ⊢
            refine ⟨by omega, by omega, by omega, by omega, ?_, ?_⟩
            · rw [List.length_take]; omega
            · exact (hb.drop _).take _
          · simp at h
theorem recsE_stop (f p : Nat) (l : List Int) (h : (getRecord l).2.2.2 ≠ 0) : recsE f p l = [] := by
  cases f with
  | zero => rfl
  | succ f => rw [recsE, if_neg h]
/-- A row of a record: its number, where its bytes are, and which. -/
structure Rw where
  k : Int
  p : Option Addr
  c : Nat
  b : List Int
abbrev Rw.v (x : Rw) : Value := .slice x.p x.b.length x.c
def Rw.rc (x : Rw) : Rc := ⟨x.k, x.b⟩
def encW (x : Rw) : List Value := [.int .i64 x.k, x.v]
def encI (x : Int) : List Value := [.int .i64 x]
abbrev OwnW (N : Nat) (w : World) (v : Value) (l : List Rw) : Prop := OwnR encW 2 71 N w v l
abbrev OwnI (N : Nat) (w : World) (v : Value) (l : List Int) : Prop := OwnR encI 1 3 N w v l
/-- Two of the call's own, of different types, lie in different blocks. -/
theorem own_apart {α β : Type} {e1 : α → List Value} {e2 : β → List Value} {k1 k2 : Nat} {T1 T2 : TypeId} {N M : Nat} {w : World} {v1 v2 : Value} {l1 : List α} {l2 : List β} (h1 : OwnR e1 k1 T1 N w v1 l1) (h2 : OwnR e2 k2 T2 M w v2 l2) (hT : T1 ≠ T2) : ∀ b, v2.ownBlock = some b → v1.ownBlock ≠ some b := by
  intro b hb hc
  rcases h2.2 with ⟨rfl, _⟩ | ⟨g, cap, cur, rfl, _, hg, _⟩
  · cases hb
  · simp [Value.ownBlock] at hb
    subst hb
    exact h1.off (g := g) (C := cur) (t := T2) hg hT hc
theorem OwnR.grown {α : Type} {e : α → List Value} {k : Nat} {T : TypeId} {N : Nat} {w w' : World} {v : Value} {l : List α} {r : Option Nat} (h : OwnR e k T N w v l) (hg : w.grownBy w' r) (hr : ∀ b, v.ownBlock = some b → r ≠ some b) : OwnR e k T N w' v l := by
  refine ⟨h.1, ?_⟩
  rcases h.2 with hn | ⟨g', cap, cur, rfl, hb', hgg, rest⟩
  · exact .inl hn
  · refine .inr ⟨g', cap, cur, rfl, hb', ?_, rest⟩
    rw [hg.block g' (Array.getElem?_eq_some_iff.1 hgg).1 (fun e => hr g' rfl e.symm)]
    exact hgg
theorem Own.rows {N : Nat} {w : World} {v : Value} {l : List Int} : Own N w v l ↔ OwnR (fun x => [Value.int .u8 x]) 1 5 N w v l := by
  unfold Own OwnR
  have : ∀ l : List Int, l.map (Value.int .u8) = l.flatMap (fun x => [Value.int .u8 x]) := fun l => by
    induction l with
    | nil => rfl
    | cons a l ih => simp [ih]
  rw [this]
/-- What stands when records are being read: all so far, where they end, and the answer's place. -/
def L1 (w wr : World) (V E : Value) (xs : List Rw) (es : List Int) : Prop := OwnW w.heap.size wr V xs ∧ (∀ x ∈ xs, Own w.heap.size wr x.v x.b ∧ By x.b) ∧ OwnI w.heap.size wr E es ∧ BX wr w.heap.size #[.int .u64 0, .slice none 0 0, .int .i64 0] 32 ∧ Below w.heap.size w wr
theorem L1.below {w wr w' : World} {V E : Value} {xs : List Rw} {es : List Int} (h : L1 w wr V E xs es) (hb : Below wr.heap.size wr w') : L1 w w' V E xs es :=
  ⟨h.1.below hb, fun x hx => ⟨(h.2.1 x hx).1.below hb, (h.2.1 x hx).2⟩, h.2.2.1.below hb, h.2.2.2.1.below hb, bel_next h.2.2.2.2 hb⟩
theorem L1.sz {w wr : World} {V E : Value} {xs : List Rw} {es : List Int} (h : L1 w wr V E xs es) : w.heap.size ≤ wr.heap.size := h.2.2.2.2.size
/-- One record more. -/
theorem L1.putV {w wr w' : World} {V E V' : Value} {xs : List Rw} {es : List Int} {x : Rw} (h : L1 w wr V E xs es) (hx : Own w.heap.size wr x.v x.b) (hby : By x.b) (ho : OwnW w.heap.size w' V' (xs ++ [x])) (hg : wr.grownBy w' V.ownBlock) (hbel : ∀ w0, Below w.heap.size w0 wr → Below w.heap.size w0 w') : L1 w w' V' E (xs ++ [x]) es := by
  refine ⟨ho, ?_, ?_, ?_, hbel _ h.2.2.2.2⟩
  · intro y hy
    have hyo : Own w.heap.size wr y.v y.b ∧ By y.b := by
      rcases List.mem_append.1 hy with q | q
      · exact h.2.1 y q
      · rw [List.mem_singleton.1 q]; exact ⟨hx, hby⟩
    refine ⟨Own.rows.2 ((Own.rows.1 hyo.1).grown hg ?_), hyo.2⟩
    intro b hb e
    exact own_apart h.1 (Own.rows.1 hyo.1) (by decide) b hb e
  · exact h.2.2.1.grown hg (fun b hb e => own_apart h.1 h.2.2.1 (by decide) b hb e)
  · exact h.2.2.2.1.grown hg (h.1.off h.2.2.2.1 (by decide))
theorem L1.putE {w wr w' : World} {V E E' : Value} {xs : List Rw} {es : List Int} {x : Int} (h : L1 w wr V E xs es) (ho : OwnI w.heap.size w' E' (es ++ [x])) (hg : wr.grownBy w' E.ownBlock) (hbel : ∀ w0, Below w.heap.size w0 wr → Below w.heap.size w0 w') : L1 w w' V E' xs (es ++ [x]) := by
  refine ⟨h.1.grown hg (fun b hb e => own_apart h.2.2.1 h.1 (by decide) b hb e), fun y hy => ⟨Own.rows.2 ((Own.rows.1 (h.2.1 y hy).1).grown hg fun b hb e => own_apart h.2.2.1 (Own.rows.1 (h.2.1 y hy).1) (by decide) b hb e), (h.2.1 y hy).2⟩, ho, ?_, hbel _ h.2.2.2.2⟩
  exact h.2.2.2.1.grown hg (h.2.2.1.off h.2.2.2.1 (by decide))
theorem goF_A {x : Rc} {n e : Nat} {t : List (Rc × Nat)} {r : List Rc} (h : x.k = 2) (h2 : x.b.length = 0) : goF ((x, n) :: t) false r e = goF t true r n := by rw [goF, if_pos ⟨h, h2, rfl⟩]
theorem goF_B {x : Rc} {n e : Nat} {t : List (Rc × Nat)} {r : List Rc} {w : Bool} (h : ¬ (x.k = 2 ∧ x.b.length = 0 ∧ w = false)) (h10 : 10 ≤ x.k) : goF ((x, n) :: t) w r e = goF t w (r ++ [x]) n := by rw [goF, if_neg h, if_pos h10]
theorem goF_C {x : Rc} {n e : Nat} {t : List (Rc × Nat)} {r : List Rc} {w : Bool} (h : ¬ (x.k = 2 ∧ x.b.length = 0 ∧ w = false)) (h10 : ¬ 10 ≤ x.k) : goF ((x, n) :: t) w r e = (w, r, e) := by rw [goF, if_neg h, if_neg h10]
theorem Own.sl {N : Nat} {w : World} {p : Option Addr} {n c : Nat} {l : List Int} (h : Own N w (.slice p n c) l) (hl : By l) : BS w p l.length l ∧ CP p l.length c := by
  obtain ⟨p', c', e, h1, h2⟩ := h.open hl
  cases e
  exact ⟨h1, h2⟩
end Go.Proofs.Ytofalfaiamaapaa
