/- A Seen in a variable of its own; dots added one by one, or all at once. -/
import Derived.Test.YtccpbkemiilgcaaDAddR
namespace Go.Proofs.Ytccpbkemiilgcaa
open Go.RowKit
set_option linter.unusedVariables false

theorem takeP {P : Program} {md : Region.Mode} {ops : Array Oper} {Q : Exit → Act → World → Prop} (i d : Nat) (v : Value) {oi : Oper} {fuel : Nat} {listed : Array Bool} {a : Act} {w : World} (hi : ops[i]? = some oi) (hd : oi.dst = some d)
    (hs : Region.noSelect ops = true) (hf : Region.free md ops listed i = true) (hr : (Region.ready md ops listed).contains i = true)
    (hQ : ∀ c a w, Q (.panic c) (a.put oi.dst v) w → Q (.panic c) a w) (hw : Region.wanted oi (yielded ops a.tmps) = true) (hy : ∀ w, (execOp a.eval oi).run P w = .ok (.value v) w)
    (h : wpAny P md ops Q fuel (listed.setIfInBounds i true) (a.put (some d) v) w) : wpAny P md ops Q (fuel + 1) listed a w :=
  wpAny_take hi hs hf hr hQ (Or.inl ⟨hw, hy⟩) (by rw [hd]; exact h)
theorem DS.set0 {w : World} {p : Option Addr} {n : Nat} {l : List Dot} (h : DS w p n l) (q : Addr) (v : Value) (hp : Off p n q.block) : DS (w.setCell q v) p n l := by
  rcases hp with h0 | hp
  · exact ⟨h.1, h.2.1, .inl h0⟩
  · exact h.set q v hp
theorem DS.far {w : World} {p : Option Addr} {n : Nat} {l : List Dot} (h : DS w p n l) : n = 0 ∨ ∀ a, p = some a → a.block < w.heap.size := by
  rcases Nat.eq_zero_or_pos n with h0 | hp
  · exact .inl h0
  · rcases h.2.2 with h0 | ⟨b, off, rfl, hc⟩
    · exact .inl h0
    · refine .inr fun a ha => ?_
      cases ha
      exact World.block_lt_of_cell? w _ (hc 0 hp).1
/-- 'w' in the statement: a Seen in a variable of its own. -/
def VS (u : World) (s : Sn) (wr : World) : Prop :=
  Below u.heap.size u wr ∧ ∃ p1 k1 c1 p2 k2 c2, wr.heap[u.heap.size]? = some (.cells #[.slice p1 k1 c1, .slice p2 k2 c2] 26 (0, 0)) ∧ NS wr p1 k1 (pln s.1) ∧ CP p1 k1 c1 ∧ DS wr p2 k2 s.2 ∧ CP p2 k2 c2 ∧ Off p1 k1 u.heap.size ∧ Off p2 k2 u.heap.size
theorem VS.put {u w' : World} {s : Sn} {x y : Value} {p1 p2 : Option Addr} {k1 c1 k2 c2 : Nat} (hb : Below u.heap.size u w') (hg : w'.heap[u.heap.size]? = some (.cells #[x, y] 26 (0, 0)))
    (hns : NS w' p1 k1 (pln s.1)) (hcp : CP p1 k1 c1) (hds : DS w' p2 k2 s.2) (hcq : CP p2 k2 c2) (h1 : Off p1 k1 u.heap.size) (h2 : Off p2 k2 u.heap.size) :
    VS u s ((w'.setCell ⟨u.heap.size, 0, none⟩ (.slice p1 k1 c1)).setCell ⟨u.heap.size, 1, none⟩ (.slice p2 k2 c2)) := by
  have q1 := set1 hg hb (Nat.le_refl _) 0 (.slice p1 k1 c1)
  have q2 := set1 q1.1 q1.2 (Nat.le_refl _) 1 (.slice p2 k2 c2)
  exact ⟨q2.2, p1, k1, c1, p2, k2, c2, q2.1, ((hns.set0 ⟨u.heap.size, 0, none⟩ _ h1).set0 ⟨u.heap.size, 1, none⟩ _ h1), hcp, ((hds.set0 ⟨u.heap.size, 0, none⟩ _ h2).set0 ⟨u.heap.size, 1, none⟩ _ h2), hcq, h1, h2⟩
theorem add_next {l : List Dot} {k : Nat} (h : k < l.length) (s : Sn) : (l.take (k + 1)).foldl addR s = addR ((l.take k).foldl addR s) (l.getD k (0, 0)) := by
  rw [List.take_add_one, List.foldl_append]
  simp [List.getD_eq_getElem?_getD, h]
theorem adds_len (l : List Dot) : ∀ s : Sn, (l.foldl addR s).2.length ≤ s.2.length + l.length := by
  induction l with
  | nil => intro s; simp
  | cons d r ih => intro s; have h1 := ih (addR s d); have h2 := addR_len s d; simp; omega
/-- One by one, or all at once. -/
theorem addF_is {c : List Int} {m l : List Dot} (hs : seenB c m = true) (hl : l.all mayD = true) : addF c m l = l.foldl addR (vec c, m) ∧ GoodX (addF c m l) := by
  have hg := (seen_good hs).1
  have h1 := foldX_good (vec_bdX c) (ordD_srt (m ++ l)) (seen_all hs hl)
  have h2 := addsR (fun x hx => List.all_eq_true.1 hl x hx) hg
  refine ⟨good_ext h1.1 h2.1 fun d hd => ?_, h1.1⟩
  show hasX (foldX (vec c) (ordD (m ++ l))) d ↔ _
  rw [h1.2 d hd, h2.2 d hd, ordD_mem, List.mem_append]
  unfold hasX
  constructor
  · rintro (q | q | q)
    · exact .inl (.inl q)
    · exact .inl (.inr q)
    · exact .inr q
  · rintro ((q | q) | q)
    · exact .inl q
    · exact .inr (.inl q)
    · exact .inr (.inr q)

end Go.Proofs.Ytccpbkemiilgcaa
