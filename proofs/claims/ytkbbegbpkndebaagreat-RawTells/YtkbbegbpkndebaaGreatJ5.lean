/- Texts of this claim, joined: A1. -/
import Derived.Test.YtkbbegbpkndebaaGreatJ3
import Derived.Test.YtkbbegbpkndebaaGreatJ4
/- Entries in memory. -/
namespace Go.Proofs.YtkbbegbpkndebaaGreat
open Go.RowKit Go.ChangeShapes Go.WideShapes
set_option linter.unusedVariables false
section
variable {α : Type} {enc : α → List Value} {k : Nat} {T : TypeId}
theorem append_rw {w : World} {o : Oper} {a : Act} {K : Act → World → Prop} {Q : Exit → Act → World → Prop} (s x : Operand) (t : TypeId)
  (ho : o.op = .call { callee := .builtin .append, args := #[s, x], argTypes := #[t, t] })
  (ht : Tryz.prog.underlying t = some (.slice T)) {z : Value} {by_ : Nat} (hi : (Tryz.prog.info? T).map (fun i => (i.zero, i.size, i.bytes)) = some (some z, k, by_)) (hz : z.cells.size = k) (hk0 : 0 < k) (hby : by_ ≤ 1000)
  (hk : ∀ x, (enc x).length = k) (h1 : ∀ x, ∀ v ∈ enc x, v.oneCell' = true)
  (N : Nat) (v : Value) (l m : List α) (hs : a.eval s = v) (hown : OwnR enc k T N w v l) (p : Option Addr) (len cap : Nat) (hx : a.eval x = .slice p len cap) (hp : p = none → cap = 0) (hB : RS enc k w p len m)
  (hbig : l.length + m.length ≤ 1000000) (hN : N ≤ w.heap.size)
  (h : ∀ v' w', OwnR enc k T N w' v' (l ++ m) → w.grownBy w' v.ownBlock → (∀ w0, Below N w0 w → Below N w0 w') → K (a.put o.dst v') w') : Oper.wp Tryz.prog o a w K Q := by
 obtain ⟨i0, hi, hz0, hz1, hz2⟩ := info_parts hi
 have g1 := hB.1
 rcases p with _ | ad
 ·have hc := hp rfl
  have hl0 : len = 0 := by
   rcases hB.2.2 with h0 | ⟨b, off, hh, _⟩
   ·exact h0
   ·cases hh
  subst hc hl0
  obtain rfl : m = [] := List.eq_nil_of_length_eq_zero g1
  have hrun := run_append_owned_none (P := Tryz.prog) (w := w) N t o.type T i0 k ht hi v _ _ hown
  have hk := h v w (by rw [List.append_nil]; exact hown) ⟨rfl, rfl, rfl, Nat.le_refl _, fun _ _ _ => rfl⟩ (fun _ h => h)
  unfold Oper.wp execOp
  simp only [ho, resolve, invoke, builtin, Sem.run_bind, Sem.run_pure, Result.andThen_ok, List.map_toArray, List.map_cons, List.map_nil, hs, hx, hrun]
  exact hk
 ·have hmul : (l.length + len) * by_ ≤ 1000000 * 1000 := Nat.mul_le_mul (by omega) hby
  obtain ⟨v', w', hr, q1, q2, _⟩ := run_append_own (P := Tryz.prog) w N t o.type T i0 z k by_ ht hi hz0 hz1 hz2 hz hk0 v _ _ hown ad len cap (m.flatMap enc) (by rw [flatR_len enc k hk, g1])
   (by
    intro j u hj
    have hjl : j < m.length * k := by rw [← flatR_len enc k hk m]; exact (List.getElem?_eq_some_iff.1 hj).1
    rcases hB.2.2 with h0 | ⟨b, off, hh, hc⟩
    ·rw [g1, h0] at hjl; omega
    ·cases hh
     rw [addr_add]
     exact hB.cells j u hj hk hk0)
   (flatR_one enc h1 m) (by rw [← g1]; unfold maxLen; omega) (by omega) hN
  have e : l.length + len = (l ++ m).length := by rw [List.length_append, g1]
  rw [e, ← List.flatMap_append] at q1
  have hk := h v' w' q1 q2 (fun w0 hb => hb.grown q2 hN (fun j hj => (World.ownsRow.lt hown j hj).1))
  unfold Oper.wp execOp
  simp only [ho, resolve, invoke, builtin, Sem.run_bind, Sem.run_pure, Result.andThen_ok, List.map_toArray, List.map_cons, List.map_nil, hs, hx, hr]
  exact hk
end
theorem DS.one {w : World} {b off n : Nat} {l : List Dot} (h : DS w (some ⟨b, off, none⟩) n l) (k : Nat) (hk : k < n) : ∃ r s : Int, l[k]? = some (r, s) ∧ w.cell? ⟨b, off + k * 2, none⟩ = some (.int .i64 r) ∧ w.cell? ⟨b, off + k * 2 + 1, none⟩ = some (.int .i64 s) := by
 rcases h.2.2 with h0 | ⟨b', off', ha, hc⟩
 ·omega
 ·cases ha
  have hl : k < l.length := by rw [h.1]; exact hk
  refine ⟨(l[k]).1, (l[k]).2, List.getElem?_eq_getElem hl, ?_⟩
  have q := hc k hk
  rw [List.getD_eq_getElem?_getD, List.getElem?_eq_getElem hl] at q
  exact q
theorem DS.addr {w : World} {a : Option Addr} {n : Nat} {l : List Dot} (h : DS w a n l) (hn : 0 < n) : ∃ b off, a = some ⟨b, off, none⟩ := by
 rcases h.2.2 with h0 | ⟨b, off, ha, _⟩
 ·omega
 ·exact ⟨b, off, ha⟩
theorem take_snocL {α : Type} {l : List α} {k : Nat} {x : α} (h : l[k]? = some x) : l.take (k + 1) = l.take k ++ [x] := by
 obtain ⟨hk, rfl⟩ := List.getElem?_eq_some_iff.1 h
 rw [List.take_succ_eq_append_getElem hk]
abbrev Ne := ByteArray × (Option Addr × Nat × Nat) × (Option Addr × Nat × Nat)
def encN (x : Ne) : List Value := [.string x.1, .slice x.2.1.1 x.2.1.2.1 x.2.1.2.2, .slice x.2.2.1 x.2.2.2.1 x.2.2.2.2]
theorem encN_len (x : Ne) : (encN x).length = 3 := rfl
theorem encN_one (x : Ne) : ∀ v ∈ encN x, v.oneCell' = true := by
 intro v hv
 simp only [encN, List.mem_cons, List.not_mem_nil, or_false] at hv
 rcases hv with rfl | rfl | rfl <;> rfl
abbrev DC (w : World) (x : Option Addr × Nat × Nat) (l : List Dot) : Prop := DS w x.1 x.2.1 l ∧ CP x.1 x.2.1 x.2.2
def RelN (w : World) (x : Ne) (e : En) : Prop := e.1 = x.1 ∧ DC w x.2.1 e.2.1 ∧ DC w x.2.2 e.2.2
theorem RelN.below {w w' : World} {x : Ne} {e : En} (h : RelN w x e) (hb : Below w.heap.size w w') : RelN w' x e := ⟨h.1, ⟨h.2.1.1.below hb, h.2.1.2⟩, ⟨h.2.2.1.below hb, h.2.2.2⟩⟩
def Rels (w : World) (xs : List Ne) (es : List En) : Prop := xs.length = es.length ∧ ∀ (i : Nat) x e, xs[i]? = some x → es[i]? = some e → RelN w x e
theorem Rels.below {w w' : World} {xs : List Ne} {es : List En} (h : Rels w xs es) (hb : Below w.heap.size w w') : Rels w' xs es := ⟨h.1, fun i x e hx he => (h.2 i x e hx he).below hb⟩
theorem Rels.nil (w : World) : Rels w [] [] := ⟨rfl, fun i x e hx => by simp at hx⟩
theorem Rels.one {w : World} {x : Ne} {e : En} (h : RelN w x e) : Rels w [x] [e] := by
 refine ⟨rfl, fun i y f hy hf => ?_⟩
 rcases i with _ | i
 ·simp at hy hf; subst hy hf; exact h
 ·simp at hy
theorem Rels.app {w : World} {xs ys : List Ne} {es fs : List En} (h : Rels w xs es) (k : Rels w ys fs) : Rels w (xs ++ ys) (es ++ fs) := by
 refine ⟨by rw [List.length_append, List.length_append, h.1, k.1], fun i x e hx he => ?_⟩
 rcases Nat.lt_or_ge i xs.length with hi | hi
 ·rw [List.getElem?_append_left hi] at hx
  rw [List.getElem?_append_left (by rw [← h.1]; exact hi)] at he
  exact h.2 i x e hx he
 ·rw [List.getElem?_append_right hi] at hx
  rw [List.getElem?_append_right (by rw [← h.1]; exact hi), ← h.1] at he
  exact k.2 _ x e hx he
theorem Rels.drop {w : World} {xs : List Ne} {es : List En} (h : Rels w xs es) (i : Nat) : Rels w (xs.drop i) (es.drop i) :=
 ⟨by rw [List.length_drop, List.length_drop, h.1], fun j x e hx he => h.2 (i + j) x e (by rwa [List.getElem?_drop] at hx) (by rwa [List.getElem?_drop] at he)⟩
theorem Rels.take {w : World} {xs : List Ne} {es : List En} (h : Rels w xs es) (i : Nat) : Rels w (xs.take i) (es.take i) := by
 refine ⟨by rw [List.length_take, List.length_take, h.1], fun j x e hx he => ?_⟩
 rw [List.getElem?_take] at hx he
 split at hx
 ·rw [if_pos (by assumption)] at he
  exact h.2 j x e hx he
 ·cases hx
def NSS (w : World) (a : Option Addr) (n : Nat) (es : List En) : Prop := ∃ xs, RS encN 3 w a n xs ∧ Rels w xs es
theorem NSS.below {w w' : World} {a : Option Addr} {n : Nat} {es : List En} (h : NSS w a n es) (hb : Below w.heap.size w w') : NSS w' a n es := by
 obtain ⟨xs, h1, h2⟩ := h
 exact ⟨xs, h1.below hb, h2.below hb⟩
theorem NSS.len {w : World} {a : Option Addr} {n : Nat} {es : List En} (h : NSS w a n es) : es.length = n := by
 obtain ⟨xs, h1, h2⟩ := h
 rw [← h2.1, h1.1]
theorem NSS.max {w : World} {a : Option Addr} {n : Nat} {es : List En} (h : NSS w a n es) : n ≤ maxLen := h.choose_spec.1.2.1
theorem NSS.nil (w : World) (p : Option Addr) : NSS w p 0 [] := ⟨[], RS.nil w p, Rels.nil w⟩
theorem NSS.addr {w : World} {a : Option Addr} {n : Nat} {es : List En} (h : NSS w a n es) (h0 : 0 < n) : ∃ b off, a = some ⟨b, off, none⟩ := by
 obtain ⟨xs, h1, h2⟩ := h
 rcases h1.2.2 with hz | ⟨b, off, ha, _⟩
 ·omega
 ·exact ⟨b, off, ha⟩
theorem NSS.at {w : World} {b off n : Nat} {es : List En} (h : NSS w (some ⟨b, off, none⟩) n es) (i : Nat) (hi : i < n) :
  ∃ (k : ByteArray) (pl : Option Addr) (nl cl : Nat) (pd : Option Addr) (nd cd : Nat) (l m : List Dot), es[i]? = some (k, l, m) ∧ w.cell? ⟨b, off + i * 3, none⟩ = some (.string k) ∧ w.cell? ⟨b, off + i * 3 + 1, none⟩ = some (.slice pl nl cl) ∧ w.cell? ⟨b, off + i * 3 + 2, none⟩ = some (.slice pd nd cd) ∧ DS w pl nl l ∧ CP pl nl cl ∧ DS w pd nd m ∧ CP pd nd cd := by
 obtain ⟨xs, h1, h2, h3⟩ := h
 obtain ⟨x, hx⟩ : ∃ x, xs[i]? = some x := ⟨_, List.getElem?_eq_getElem (by rw [h1.1]; exact hi)⟩
 obtain ⟨e, he⟩ : ∃ e, es[i]? = some e := ⟨_, List.getElem?_eq_getElem (by rw [← h2, h1.1]; exact hi)⟩
 rcases h1.2.2 with hz | ⟨b', off', ha, hc⟩
 ·omega
 ·cases ha
  have q := hc i _ hx
  have hr := h3 i _ _ hx he
  obtain ⟨k, ⟨pl, nl, cl⟩, pd, nd, cd⟩ := x
  obtain ⟨k', l, m⟩ := e
  obtain ⟨hd, ⟨k1, k2⟩, k3, k4⟩ := hr
  simp only at hd k1 k2 k3 k4
  subst hd
  exact ⟨k', pl, nl, cl, pd, nd, cd, l, m, he, q 0 _ rfl, q 1 _ rfl, q 2 _ rfl, k1, k2, k3, k4⟩
theorem NSS.mid {w : World} {b off n : Nat} {es : List En} (h : NSS w (some ⟨b, off, none⟩) n es) (i : Nat) (hi : i ≤ n) : NSS w (some ⟨b, off + i * 3, none⟩) (n - i) (es.drop i) := by
 obtain ⟨xs, h1, h2⟩ := h
 exact ⟨xs.drop i, h1.mid i hi, h2.drop i⟩
theorem RS.fst {α : Type} {enc : α → List Value} {k : Nat} {w : World} {a : Option Addr} {n : Nat} {l : List α} (h : RS enc k w a n l) (i : Nat) (hi : i ≤ n) : RS enc k w a i (l.take i) := by
 obtain ⟨h1, h2, h4⟩ := h
 refine ⟨by rw [List.length_take]; omega, by omega, ?_⟩
 rcases h4 with h0 | ⟨b, off, ha, hc⟩
 ·exact .inl (by omega)
 ·refine .inr ⟨b, off, ha, fun j x hj => ?_⟩
  rw [List.getElem?_take] at hj
  split at hj
  ·exact hc j x hj
  ·cases hj
theorem NSS.head {w : World} {a : Option Addr} {n : Nat} {es : List En} (h : NSS w a n es) (i : Nat) (hi : i ≤ n) : NSS w a i (es.take i) := by
 obtain ⟨xs, h1, h2⟩ := h
 exact ⟨xs.take i, h1.fst i hi, h2.take i⟩
def Lo (N : Nat) (w : World) (x : Option Addr × Nat × Nat) : Prop := x.2.1 = 0 ∨ ∀ a, x.1 = some a → a.block < w.heap.size ∧ (a.block < N ∨ ∃ C fr, w.heap[a.block]? = some (.cells C 33 fr))
theorem Lo.below {N : Nat} {w w' : World} {x : Option Addr × Nat × Nat} (h : Lo N w x) (hb : Below w.heap.size w w') : Lo N w' x := by
 rcases h with h | h
 ·exact .inl h
 ·refine .inr fun a ha => ?_
  obtain ⟨h1, h2⟩ := h a ha
  refine ⟨Nat.lt_of_lt_of_le h1 hb.size, ?_⟩
  rcases h2 with h2 | ⟨C, fr, h2⟩
  ·exact .inl h2
  ·exact .inr ⟨C, fr, by rw [hb.block _ h1]; exact h2⟩
theorem Lo.none (N : Nat) (w : World) : Lo N w (none, 0, 0) := .inl rfl
theorem Lo.old {N : Nat} {w0 w : World} {x : Option Addr × Nat × Nat} {l : List Dot} (h : DS w0 x.1 x.2.1 l) (hN : w0.heap.size ≤ N) (hb : w0.heap.size ≤ w.heap.size) : Lo N w x := by
 rcases h.far with h | h
 ·exact .inl h
 ·exact .inr fun a ha => ⟨by have := h a ha; omega, .inl (by have := h a ha; omega)⟩
theorem Lo.own {N M : Nat} {w : World} {p : Option Addr} {n c : Nat} {l : List Dot} (h : OwnD M w (.slice p n c) l) : Lo N w (p, n, c) := by
 obtain ⟨_, h2⟩ := h
 rcases h2 with ⟨h1, h2⟩ | ⟨g, cap, cur, h1, h2, h3, _⟩
 ·cases h1
  exact .inl rfl
 ·cases h1
  refine .inr fun a ha => ?_
  cases ha
  exact ⟨(Array.getElem?_eq_some_iff.1 h3).1, .inr ⟨_, _, h3⟩⟩
def ON (N : Nat) (w : World) (V : Value) (es : List En) : Prop := ∃ xs, OwnR encN 3 125 N w V xs ∧ Rels w xs es ∧ ∀ x ∈ xs, Lo N w x.2.1 ∧ Lo N w x.2.2
theorem ON.below {N : Nat} {w w' : World} {V : Value} {es : List En} (h : ON N w V es) (hb : Below w.heap.size w w') : ON N w' V es := by
 obtain ⟨xs, h1, h2, h3⟩ := h
 exact ⟨xs, h1.below hb, h2.below hb, fun x hx => ⟨(h3 x hx).1.below hb, (h3 x hx).2.below hb⟩⟩
theorem ON.nil (N : Nat) (w : World) : ON N w (.slice none 0 0) [] := ⟨[], OwnR.nil N w, Rels.nil w, fun x hx => by simp at hx⟩
theorem ON.made (w : World) (N g : Nat) (hg : g = w.heap.size) (hN : N ≤ w.heap.size) : ON N (w.alloc (.cells #[] 125)) (.slice (some ⟨g, 0, none⟩) 0 0) [] := ⟨[], OwnR.made w N g hg hN, Rels.nil _, fun x hx => by simp at hx⟩
theorem ON.open {N : Nat} {w : World} {V : Value} {es : List En} (h : ON N w V es) : ∃ p c, V = .slice p es.length c ∧ NSS w p es.length es ∧ CP p es.length c := by
 obtain ⟨xs, h1, h2, h3⟩ := h
 obtain ⟨p, c, e, k1, k2⟩ := h1.open encN_len
 rw [h2.1] at e k1 k2
 exact ⟨p, c, e, ⟨xs, k1, h2⟩, k2⟩
theorem DS.grownL {N : Nat} {w w' : World} {V : Value} {xs : List Ne} {x : Option Addr × Nat × Nat} {l : List Dot} (ho : OwnR encN 3 125 N w V xs) (h : DS w x.1 x.2.1 l) (hl : Lo N w x) (hg : w.grownBy w' V.ownBlock) : DS w' x.1 x.2.1 l ∧ Lo N w' x := by
 rcases hl with h0 | hl
 ·refine ⟨⟨h.1, h.2.1, .inl h0⟩, .inl h0⟩
 ·have ne : ∀ a, x.1 = some a → some a.block ≠ V.ownBlock := by
   intro a ha e
   obtain ⟨_, h2⟩ := hl a ha
   obtain ⟨_, ho⟩ := ho
   rcases ho with ⟨rfl, _⟩ | ⟨g, cap, cur, rfl, k1, k2, _⟩
   ·simp [Value.ownBlock] at e
   ·simp only [Value.ownBlock, Option.some.injEq] at e
    rcases h2 with h2 | ⟨C, fr, h2⟩
    ·omega
    ·rw [e, k2] at h2
     simp at h2
  refine ⟨?_, .inr fun a ha => ?_⟩
  ·rcases h.2.2 with h0 | ⟨b, off, ha, hc⟩
   ·exact ⟨h.1, h.2.1, .inl h0⟩
   ·exact ⟨h.1, h.2.1, .inr ⟨b, off, ha, fun i hi => ⟨gcell hg (hc i hi).1 (show some b ≠ _ from ne _ ha), gcell hg (hc i hi).2 (show some b ≠ _ from ne _ ha)⟩⟩⟩
  ·obtain ⟨h1, h2⟩ := hl a ha
   obtain ⟨_, _, _, k4, k5⟩ := hg
   refine ⟨Nat.lt_of_lt_of_le h1 k4, h2.imp id ?_⟩
   rintro ⟨C, fr, h2⟩
   exact ⟨C, fr, by rw [k5 _ h1 (ne a ha)]; exact h2⟩
theorem RelN.grown {N : Nat} {w w' : World} {V : Value} {xs : List Ne} {x : Ne} {e : En} (ho : OwnR encN 3 125 N w V xs) (h : RelN w x e) (hl : Lo N w x.2.1 ∧ Lo N w x.2.2) (hg : w.grownBy w' V.ownBlock) : RelN w' x e ∧ Lo N w' x.2.1 ∧ Lo N w' x.2.2 := by
 obtain ⟨a1, a2⟩ := DS.grownL ho h.2.1.1 hl.1 hg
 obtain ⟨b1, b2⟩ := DS.grownL ho h.2.2.1 hl.2 hg
 exact ⟨⟨h.1, ⟨a1, h.2.1.2⟩, b1, h.2.2.2⟩, a2, b2⟩
theorem Rels.grown {N : Nat} {w w' : World} {V : Value} {xs ys : List Ne} {es : List En} (ho : OwnR encN 3 125 N w V xs) (h : Rels w ys es) (hl : ∀ x ∈ ys, Lo N w x.2.1 ∧ Lo N w x.2.2) (hg : w.grownBy w' V.ownBlock) : Rels w' ys es ∧ ∀ x ∈ ys, Lo N w' x.2.1 ∧ Lo N w' x.2.2 := by
 have all : ∀ (i : Nat) x, ys[i]? = some x → ∃ e, es[i]? = some e ∧ RelN w' x e ∧ Lo N w' x.2.1 ∧ Lo N w' x.2.2 := by
  intro i x hx
  have hi := (List.getElem?_eq_some_iff.1 hx).1
  rw [h.1] at hi
  have he : es[i]? = some es[i] := List.getElem?_eq_getElem hi
  exact ⟨_, he, RelN.grown ho (h.2 i x _ hx he) (hl x (List.mem_of_getElem? hx)) hg⟩
 refine ⟨⟨h.1, fun i x e hx he => ?_⟩, fun x hx => ?_⟩
 ·obtain ⟨e', h1, h2, _⟩ := all i x hx
  rw [he] at h1
  cases h1
  exact h2
 ·obtain ⟨i, hi⟩ := List.mem_iff_getElem?.1 hx
  obtain ⟨_, _, _, h3⟩ := all i x hi
  exact h3
theorem Tryz.infoEnt : (Tryz.prog.info? 125).map (fun i => (i.zero, i.size, i.bytes)) = some (some (.agg #[.string ⟨#[]⟩, .slice none 0 0, .slice none 0 0]), 3, 64) := by kernel_rfl
theorem RSN.one (w : World) (x : Ne) (g : Nat) (hg : g = w.heap.size) (t : TypeId) (fr : Nat × Nat) : RS encN 3 (w.alloc (.cells #[.string x.1, .slice x.2.1.1 x.2.1.2.1 x.2.1.2.2, .slice x.2.2.1 x.2.2.2.1 x.2.2.2.2] t fr)) (some ⟨g, 0, none⟩) 1 [x] :=
 RS.new encN_len w g hg [x] _ (by simp [encN]) t fr 1 rfl (by decide)
theorem append_en {w : World} {ops : Array Oper} {rest : List Oper} {o : Oper} {a : Act} {Q : Exit → Act → World → Prop} (hgd : o.guard = none) (s x : Operand)
  (ho : o.op = .call { callee := .builtin .append, args := #[s, x], argTypes := #[74, 74] })
  (N : Nat) (V : Value) (es fs : List En) (hs : a.eval s = V) (hown : ON N w V es) (p : Option Addr) (len cap : Nat) (hx : a.eval x = .slice p len cap) (hp : p = none → cap = 0) (ys : List Ne) (hB : RS encN 3 w p len ys) (hR : Rels w ys fs) (hL : ∀ y ∈ ys, Lo N w y.2.1 ∧ Lo N w y.2.2)
  (hbig : es.length + fs.length ≤ 1000000) (hN : N ≤ w.heap.size)
  (h : ∀ v' w', ON N w' v' (es ++ fs) → w.grownBy w' V.ownBlock → (∀ w0, Below N w0 w → Below N w0 w') → wpList Tryz.prog ops Q rest (a.put o.dst v') w') : wpList Tryz.prog ops Q (o :: rest) a w := by
 obtain ⟨xs, h1, h2, h3⟩ := hown
 refine append_rows hgd s x _ ho Tryz.underlying74 Tryz.infoEnt rfl (by decide) (by decide) encN_len encN_one N V xs ys hs h1 p len cap hx hp hB (by rw [h2.1, hR.1]; exact hbig) hN ?_
 intro v' w' k1 k2 k3
 obtain ⟨q1, q2⟩ := Rels.grown h1 h2 h3 k2
 obtain ⟨r1, r2⟩ := Rels.grown h1 hR hL k2
 refine h v' w' ⟨xs ++ ys, k1, q1.app r1, fun x hx => ?_⟩ k2 k3
 rcases List.mem_append.1 hx with hx | hx
 ·exact q2 x hx
 ·exact r2 x hx
theorem append_enw {w : World} {o : Oper} {a : Act} {K : Act → World → Prop} {Q : Exit → Act → World → Prop} (s x : Operand)
  (ho : o.op = .call { callee := .builtin .append, args := #[s, x], argTypes := #[74, 74] })
  (N : Nat) (V : Value) (es fs : List En) (hs : a.eval s = V) (hown : ON N w V es) (p : Option Addr) (len cap : Nat) (hx : a.eval x = .slice p len cap) (hp : p = none → cap = 0) (ys : List Ne) (hB : RS encN 3 w p len ys) (hR : Rels w ys fs) (hL : ∀ y ∈ ys, Lo N w y.2.1 ∧ Lo N w y.2.2)
  (hbig : es.length + fs.length ≤ 1000000) (hN : N ≤ w.heap.size)
  (h : ∀ v' w', ON N w' v' (es ++ fs) → w.grownBy w' V.ownBlock → (∀ w0, Below N w0 w → Below N w0 w') → K (a.put o.dst v') w') : Oper.wp Tryz.prog o a w K Q := by
 obtain ⟨xs, h1, h2, h3⟩ := hown
 refine append_rw s x _ ho Tryz.underlying74 Tryz.infoEnt rfl (by decide) (by decide) encN_len encN_one N V xs ys hs h1 p len cap hx hp hB (by rw [h2.1, hR.1]; exact hbig) hN ?_
 intro v' w' k1 k2 k3
 obtain ⟨q1, q2⟩ := Rels.grown h1 h2 h3 k2
 obtain ⟨r1, r2⟩ := Rels.grown h1 hR hL k2
 refine h v' w' ⟨xs ++ ys, k1, q1.app r1, fun x hx => ?_⟩ k2 k3
 rcases List.mem_append.1 hx with hx | hx
 ·exact q2 x hx
 ·exact r2 x hx
end Go.Proofs.YtkbbegbpkndebaaGreat

