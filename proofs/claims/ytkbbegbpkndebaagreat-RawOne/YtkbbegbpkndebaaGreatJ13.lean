/- Texts of this claim, joined: H5, GAp, GPut, H9, H10, H11. -/
import Derived.Laws.OwnMore
import Derived.Laws.Append
import Derived.Test.YtkbbegbpkndebaaGreatJ1
import Derived.Test.YtkbbegbpkndebaaGreatJ12
import Derived.Test.YtkbbegbpkndebaaGreatJ4
import Derived.Test.YtkbbegbpkndebaaGreatJ5
/- Raw and kinds in memory (layer 13): slices of slices, and what keeps them. -/
namespace Go.Proofs.YtkbbegbpkndebaaGreat
open Go.RowKit Go.ChangeShapes Go.WideShapes
set_option linter.unusedVariables false
/-- A slice, as its address, length and room. -/
abbrev Hd := Option Addr × Nat × Nat
def encH (x : Hd) : List Value := [.slice x.1 x.2.1 x.2.2]
theorem encH_len (x : Hd) : (encH x).length = 1 := rfl
theorem encH_one (x : Hd) : ∀ v ∈ encH x, v.oneCell' = true := by
  intro v hv
  simp only [encH, List.mem_cons, List.not_mem_nil, or_false] at hv
  subst hv
  rfl
/-- What a thing's list is, in memory. -/
abbrev LI (α : Type) := World → Option Addr → Nat → List α → Prop
/-- All that a block has are slices. -/
def SlB (g : Nat) (w : World) : Prop := ∀ q v, w.cell? q = some v → q.block = g → ∃ p n c, v = .slice p n c
/-- Such a list is kept, where memory is. -/
structure Kept {α : Type} (I : LI α) : Prop where
  below : ∀ {w w' : World} {p : Option Addr} {m : Nat} {l : List α}, I w p m l → Below w.heap.size w w' → I w' p m l
  len : ∀ {w : World} {p : Option Addr} {m : Nat} {l : List α}, I w p m l → l.length = m
  nil : ∀ (w : World) (p : Option Addr), I w p 0 []
  kp : ∀ {w w' : World} {p : Option Addr} {m : Nat} {l : List α} {g : Nat}, I w p m l → KP g w w' → SlB g w → I w' p m l
def RelH {α : Type} (I : LI α) (w : World) (hs : List Hd) (ls : List (List α)) : Prop := hs.length = ls.length ∧ ∀ (i : Nat) h l, hs[i]? = some h → ls[i]? = some l → I w h.1 h.2.1 l ∧ CP h.1 h.2.1 h.2.2
/-- A slice of slices. -/
def LS {α : Type} (I : LI α) (w : World) (a : Option Addr) (n : Nat) (ls : List (List α)) : Prop := ∃ hs, RS encH 1 w a n hs ∧ RelH I w hs ls
section
variable {α : Type} {I : LI α}
theorem RelH.below (k : Kept I) {w w' : World} {hs : List Hd} {ls : List (List α)} (h : RelH I w hs ls) (hb : Below w.heap.size w w') : RelH I w' hs ls := ⟨h.1, fun i x l hx hl => ⟨k.below (h.2 i x l hx hl).1 hb, (h.2 i x l hx hl).2⟩⟩
theorem RelH.kp (k : Kept I) {w w' : World} {g : Nat} {hs : List Hd} {ls : List (List α)} (h : RelH I w hs ls) (hp : KP g w w') (hs' : SlB g w) : RelH I w' hs ls := ⟨h.1, fun i x l hx hl => ⟨k.kp (h.2 i x l hx hl).1 hp hs', (h.2 i x l hx hl).2⟩⟩
theorem RelH.nil (w : World) : RelH I w [] [] := ⟨rfl, fun i x l hx => by simp at hx⟩
theorem RelH.set (k : Kept I) {w : World} {hs : List Hd} {ls : List (List α)} (h : RelH I w hs ls) (j : Nat) {x : Hd} {l : List α} (hx : I w x.1 x.2.1 l) (hc : CP x.1 x.2.1 x.2.2) : RelH I w (hs.set j x) (ls.set j l) := by
  refine ⟨by rw [List.length_set, List.length_set, h.1], fun i y m hy hm => ?_⟩
  rw [List.getElem?_set] at hy hm
  by_cases e : j = i
  · subst e
    rw [if_pos rfl] at hy hm
    split at hy
    · cases hy
      rw [if_pos (by rw [← h.1]; assumption)] at hm
      cases hm
      exact ⟨hx, hc⟩
    · cases hy
  · rw [if_neg e] at hy hm
    exact h.2 i y m hy hm
theorem LS.below (k : Kept I) {w w' : World} {a : Option Addr} {n : Nat} {ls : List (List α)} (h : LS I w a n ls) (hb : Below w.heap.size w w') : LS I w' a n ls := by
  obtain ⟨hs, h1, h2⟩ := h
  exact ⟨hs, h1.below hb, h2.below k hb⟩
theorem LS.len {w : World} {a : Option Addr} {n : Nat} {ls : List (List α)} (h : LS I w a n ls) : ls.length = n := by
  obtain ⟨hs, h1, h2⟩ := h
  rw [← h2.1, h1.1]
theorem LS.max {w : World} {a : Option Addr} {n : Nat} {ls : List (List α)} (h : LS I w a n ls) : n ≤ maxLen := by
  obtain ⟨hs, h1, h2⟩ := h
  exact h1.2.1
theorem LS.nil (w : World) (p : Option Addr) : LS I w p 0 [] := ⟨[], RS.nil w p, RelH.nil w⟩
theorem LS.addr {w : World} {a : Option Addr} {n : Nat} {ls : List (List α)} (h : LS I w a n ls) (h0 : 0 < n) : ∃ b off, a = some ⟨b, off, none⟩ := by
  obtain ⟨hs, h1, h2⟩ := h
  rcases h1.2.2 with hz | ⟨b, off, ha, _⟩
  · omega
  · exact ⟨b, off, ha⟩
theorem LS.at {w : World} {b off n : Nat} {ls : List (List α)} (h : LS I w (some ⟨b, off, none⟩) n ls) (i : Nat) (hi : i < n) : ∃ p m c l, ls[i]? = some l ∧ w.cell? ⟨b, off + i, none⟩ = some (.slice p m c) ∧ I w p m l ∧ CP p m c := by
  obtain ⟨hs, h1, h2⟩ := h
  obtain ⟨x, hx⟩ : ∃ x, hs[i]? = some x := ⟨_, List.getElem?_eq_getElem (by rw [h1.1]; exact hi)⟩
  obtain ⟨l, hl⟩ : ∃ l, ls[i]? = some l := ⟨_, List.getElem?_eq_getElem (by rw [← h2.1, h1.1]; exact hi)⟩
  rcases h1.2.2 with hz | ⟨b', off', ha, hc⟩
  · omega
  · cases ha
    have q := hc i x hx 0 _ rfl
    rw [Nat.mul_one, Nat.add_zero] at q
    exact ⟨x.1, x.2.1, x.2.2, l, hl, q, h2.2 i x l hx hl⟩
end
/-! The four kinds of lists -/
theorem rs_kp {α : Type} {enc : α → List Value} {k : Nat} (h0 : ∀ x, ∃ s : ByteArray, (enc x)[0]? = some (.string s)) {w w' : World} {g : Nat} {a : Option Addr} {n : Nat} {l : List α} (h : RS enc k w a n l) (hp : KP g w w') (hs : SlB g w) : RS enc k w' a n l := by
  obtain ⟨h1, h2, h3⟩ := h
  refine ⟨h1, h2, ?_⟩
  rcases h3 with hz | ⟨b, off, ha, hc⟩
  · exact .inl hz
  · rcases Nat.eq_zero_or_pos n with hz | hn
    · exact .inl hz
    · refine .inr ⟨b, off, ha, fun i x hi j v hj => hp _ _ (hc i x hi j v hj) (fun e => ?_)⟩
      obtain ⟨s, hs0⟩ := h0 x
      obtain ⟨p, m, c, e2⟩ := hs _ _ (hc i x hi 0 _ hs0) e
      cases e2
theorem ds_kp {w w' : World} {g : Nat} {a : Option Addr} {n : Nat} {l : List Dot} (h : DS w a n l) (hp : KP g w w') (hs : SlB g w) : DS w' a n l := by
  obtain ⟨h1, h2, h3⟩ := h
  refine ⟨h1, h2, ?_⟩
  rcases h3 with hz | ⟨b, off, ha, hc⟩
  · exact .inl hz
  · refine .inr ⟨b, off, ha, ?_⟩
    have fr : ∀ q (z : Int), w.cell? q = some (.int .i64 z) → w'.cell? q = some (.int .i64 z) := fun q z hq => hp q _ hq (fun e => by
      obtain ⟨p, m, c, e2⟩ := hs _ _ hq e
      cases e2)
    exact fun i hi => ⟨fr _ _ (hc i hi).1, fr _ _ (hc i hi).2⟩
theorem kept_ent : Kept NSS := by
  refine ⟨fun h hb => h.below hb, fun h => h.len, fun w p => NSS.nil w p, fun {w w' p m l g} h hp hs => ?_⟩
  obtain ⟨xs, h1, h2, h3⟩ := h
  refine ⟨xs, rs_kp (fun x => ⟨x.1, rfl⟩) h1 hp hs, h2, fun i x e hx he => ?_⟩
  obtain ⟨q1, q2, q3⟩ := h3 i x e hx he
  exact ⟨q1, ⟨ds_kp q2.1 hp hs, q2.2⟩, ⟨ds_kp q3.1 hp hs, q3.2⟩⟩
theorem kept_cel : Kept TS := ⟨fun h hb => TS.below h hb, fun h => h.1, fun w p => TS.nil w p, fun h hp hs => rs_kp (fun x => ⟨x.1, rfl⟩) h hp hs⟩
theorem kept_not : Kept NN := ⟨fun h hb => NN.below h hb, fun h => h.1, fun w p => NN.nil w p, fun h hp hs => rs_kp (fun x => ⟨x.1, rfl⟩) h hp hs⟩
theorem kept_acc : Kept AC := ⟨fun h hb => AC.below h hb, fun h => h.1.1, fun w p => AC.nil w p, fun h hp hs => ⟨rs_kp (fun x => ⟨x.1, rfl⟩) h.1 hp hs, h.2⟩⟩
/-! Raw -/
/-- Raw in memory, by its four slices. -/
structure RM (w : World) (p1 : Option Addr) (n1 c1 : Nat) (p2 : Option Addr) (n2 c2 : Nat) (p3 : Option Addr) (n3 c3 : Nat) (p4 : Option Addr) (n4 c4 : Nat) (r : Rw) : Prop where
  s : LS NSS w p1 n1 r.1
  t : LS TS w p2 n2 r.2.1
  a : LS AC w p3 n3 r.2.2.1
  g : LS NN w p4 n4 r.2.2.2
  cs : CP p1 n1 c1
  ct : CP p2 n2 c2
  ca : CP p3 n3 c3
  cg : CP p4 n4 c4
theorem RM.below {w w' : World} {p1 : Option Addr} {n1 c1 : Nat} {p2 : Option Addr} {n2 c2 : Nat} {p3 : Option Addr} {n3 c3 : Nat} {p4 : Option Addr} {n4 c4 : Nat} {r : Rw} (h : RM w p1 n1 c1 p2 n2 c2 p3 n3 c3 p4 n4 c4 r) (hb : Below w.heap.size w w') : RM w' p1 n1 c1 p2 n2 c2 p3 n3 c3 p4 n4 c4 r :=
  ⟨h.s.below kept_ent hb, h.t.below kept_cel hb, h.a.below kept_acc hb, h.g.below kept_not hb, h.cs, h.ct, h.ca, h.cg⟩
/-! Kinds -/
def encBo (b : Bool) : List Value := [.bool b]
def encFl (f : Bool × Int) : List Value := [.bool f.1, .int .i64 f.2]
/-- Kinds in memory. -/
structure KM (w : World) (ps : Option Addr) (ns cs : Nat) (pc : Option Addr) (nc cc : Nat) (k : Kd) : Prop where
  s : RS encBo 1 w ps ns k.1
  c : RS encFl 2 w pc nc k.2.1
  ks : CP ps ns cs
  kc : CP pc nc cc
theorem KM.below {w w' : World} {ps : Option Addr} {ns cs : Nat} {pc : Option Addr} {nc cc : Nat} {k : Kd} (h : KM w ps ns cs pc nc cc k) (hb : Below w.heap.size w w') : KM w' ps ns cs pc nc cc k := ⟨h.s.below hb, h.c.below hb, h.ks, h.kc⟩
theorem rs_addr {α : Type} {enc : α → List Value} {k : Nat} {w : World} {a : Option Addr} {n : Nat} {l : List α} (h : RS enc k w a n l) (h0 : 0 < n) : ∃ b off, a = some ⟨b, off, none⟩ := by
  rcases h.2.2 with hz | ⟨b, off, ha, _⟩
  · omega
  · exact ⟨b, off, ha⟩
theorem floor_at {w : World} {b off n : Nat} {l : List (Bool × Int)} (h : RS encFl 2 w (some ⟨b, off, none⟩) n l) (i : Nat) (hi : i < n) : ∃ is fat, l[i]? = some (is, fat) ∧ w.cell? ⟨b, off + i * 2, none⟩ = some (.bool is) ∧ w.cell? ⟨b, off + i * 2 + 1, none⟩ = some (.int .i64 fat) := by
  have hl : i < l.length := by rw [h.1]; exact hi
  have hx : l[i]? = some l[i] := List.getElem?_eq_getElem hl
  rcases h.2.2 with h0 | ⟨b', off', ha, hc⟩
  · omega
  · cases ha
    have q := hc i _ hx
    exact ⟨l[i].1, l[i].2, hx, q 0 _ rfl, q 1 _ rfl⟩
theorem bool_at {w : World} {b off n : Nat} {l : List Bool} (h : RS encBo 1 w (some ⟨b, off, none⟩) n l) (i : Nat) (hi : i < n) : ∃ r, l[i]? = some r ∧ w.cell? ⟨b, off + i, none⟩ = some (.bool r) := by
  have hl : i < l.length := by rw [h.1]; exact hi
  have hx : l[i]? = some l[i] := List.getElem?_eq_getElem hl
  rcases h.2.2 with h0 | ⟨b', off', ha, hc⟩
  · omega
  · cases ha
    have q := hc i _ hx 0 _ rfl
    rw [Nat.mul_one, Nat.add_zero] at q
    exact ⟨l[i], hx, q⟩
end Go.Proofs.YtkbbegbpkndebaaGreat

/- 'append' of rows at an operation. -/
namespace Go.Proofs.YtkbbegbpkndebaaGreat
open Go.RowKit Go.Lib
set_option linter.unusedVariables false
section
variable {α : Type} {enc : α → List Value} {k : Nat} {T : TypeId}
/-- 'append(v, x...)', 'v' the call's own, at an operation. -/
theorem append_rg {w : World} {o : Oper} {a : Act} {K : Act → World → Prop} {Q : Exit → Act → World → Prop} (s x : Operand) (t : TypeId)
    (ho : o.op = .call { callee := .builtin .append, args := #[s, x], argTypes := #[t, t] })
    (ht : Tryz.prog.underlying t = some (.slice T)) {z : Value} {by_ : Nat} (hi : (Tryz.prog.info? T).map (fun i => (i.zero, i.size, i.bytes)) = some (some z, k, by_)) (hz : z.cells.size = k) (hk0 : 0 < k) (hby : by_ ≤ 1000)
    (hk : ∀ x, (enc x).length = k) (h1 : ∀ x, ∀ v ∈ enc x, v.oneCell' = true)
    (N : Nat) (v : Value) (l m : List α) (hs : a.eval s = v) (hown : OwnR enc k T N w v l) (p : Option Addr) (len cap : Nat) (hx : a.eval x = .slice p len cap) (hp : p = none → cap = 0) (hB : RS enc k w p len m)
    (hbig : l.length + m.length ≤ 1000000) (hN : N ≤ w.heap.size)
    (h : ∀ v' w', OwnR enc k T N w' v' (l ++ m) → w.grownBy w' v.ownBlock → (∀ w0, Below N w0 w → Below N w0 w') → K (a.put o.dst v') w') : Oper.wp Tryz.prog o a w K Q := by
  obtain ⟨i0, hi, hz0, hz1, hz2⟩ := info_parts hi
  have g1 := hB.1
  rcases p with _ | ad
  · have hc := hp rfl
    have hl0 : len = 0 := by
      rcases hB.2.2 with h0 | ⟨b, off, hh, _⟩
      · exact h0
      · cases hh
    subst hc hl0
    obtain rfl : m = [] := List.eq_nil_of_length_eq_zero g1
    have hrun := run_append_owned_none (P := Tryz.prog) (w := w) N t o.type T i0 k ht hi v _ _ hown
    have hk := h v w (by rw [List.append_nil]; exact hown) ⟨rfl, rfl, rfl, Nat.le_refl _, fun _ _ _ => rfl⟩ (fun _ h => h)
    unfold Oper.wp execOp
    simp only [ho, resolve, invoke, builtin, Sem.run_bind, Sem.run_pure, Result.andThen_ok, List.map_toArray, List.map_cons, List.map_nil, hs, hx, hrun]
    exact hk
  · have hmul : (l.length + len) * by_ ≤ 1000000 * 1000 := Nat.mul_le_mul (by omega) hby
    obtain ⟨v', w', hr, q1, q2, _⟩ := run_append_own (P := Tryz.prog) w N t o.type T i0 z k by_ ht hi hz0 hz1 hz2 hz hk0 v _ _ hown ad len cap (m.flatMap enc) (by rw [flatR_len enc k hk, g1])
      (by
        intro j u hj
        have hjl : j < m.length * k := by rw [← flatR_len enc k hk m]; exact (List.getElem?_eq_some_iff.1 hj).1
        rcases hB.2.2 with h0 | ⟨b, off, hh, hc⟩
        · rw [g1, h0] at hjl; omega
        · cases hh
          rw [addr_add]
          exact hB.cells j u hj hk hk0)
      (flatR_one enc h1 m) (by rw [← g1]; unfold maxLen; omega) (by omega) hN
    have e : l.length + len = (l ++ m).length := by rw [List.length_append, g1]
    rw [e, ← List.flatMap_append] at q1
    have hk := h v' w' q1 q2 (fun w0 hb => hb.grown q2 hN (fun j hj => (World.ownsRow.lt hown j hj).1))
    unfold Oper.wp execOp
    simp only [ho, resolve, invoke, builtin, Sem.run_bind, Sem.run_pure, Result.andThen_ok, List.map_toArray, List.map_cons, List.map_nil, hs, hx, hr]
    exact hk
end
theorem bel_put4N {w u : World} {g : Nat} (hb : Below w.heap.size w u) (hg : w.heap.size ≤ g) (a b c d : Value) : Below w.heap.size w ((((u.setCell ⟨g, 0, none⟩ a).setCell ⟨g, 1, none⟩ b).setCell ⟨g, 2, none⟩ c).setCell ⟨g, 3, none⟩ d) := (((hb.setCell (p := ⟨g, 0, none⟩) hg a).setCell (p := ⟨g, 1, none⟩) hg b).setCell (p := ⟨g, 2, none⟩) hg c).setCell (p := ⟨g, 3, none⟩) hg d
end Go.Proofs.YtkbbegbpkndebaaGreat

/- A struct of k cells stored into a block that is known whole: what the block holds then, and what stays. -/
namespace Go.Proofs.YtkbbegbpkndebaaGreat
open Go.RowKit
set_option linter.unusedVariables false
theorem BX.other {u : World} {g k : Nat} {C : Array Value} {t : TypeId} (h : BX u g C t) (hne : k ≠ g) (i : Nat) (v : Value) : BX (u.setCell ⟨k, i, none⟩ v) g C t := by
  unfold BX at *
  simp [World.setCell, Array.getElem?_modify, hne, h]
theorem BX.put3 {u : World} {g : Nat} {t : TypeId} {c0 c1 c2 : Value} (h : BX u g #[c0, c1, c2] t) (v0 v1 v2 : Value) :
    BX (((u.setCell ⟨g, 0, none⟩ v0).setCell ⟨g, 1, none⟩ v1).setCell ⟨g, 2, none⟩ v2) g #[v0, v1, v2] t ∧ KP g u (((u.setCell ⟨g, 0, none⟩ v0).setCell ⟨g, 1, none⟩ v1).setCell ⟨g, 2, none⟩ v2) ∧ (∀ B W0, Below B W0 u → B ≤ g → Below B W0 (((u.setCell ⟨g, 0, none⟩ v0).setCell ⟨g, 1, none⟩ v1).setCell ⟨g, 2, none⟩ v2)) ∧ ∀ k D r, BX u k D r → g ≠ k → BX (((u.setCell ⟨g, 0, none⟩ v0).setCell ⟨g, 1, none⟩ v1).setCell ⟨g, 2, none⟩ v2) k D r := by
  have h0 : BX (u.setCell ⟨g, 0, none⟩ v0) g #[v0, c1, c2] t := h.set 0 v0
  have h1 : BX ((u.setCell ⟨g, 0, none⟩ v0).setCell ⟨g, 1, none⟩ v1) g #[v0, v1, c2] t := h0.set 1 v1
  have h2 : BX (((u.setCell ⟨g, 0, none⟩ v0).setCell ⟨g, 1, none⟩ v1).setCell ⟨g, 2, none⟩ v2) g #[v0, v1, v2] t := h1.set 2 v2
  exact ⟨h2, ((((((KP.refl g u).set 0 v0)).set 1 v1)).set 2 v2), fun B W0 hb hB => ((((((hb).setCell hB _)).setCell hB _)).setCell hB _), fun k D r hk hne => ((((((hk).other hne 0 v0)).other hne 1 v1)).other hne 2 v2)⟩
end Go.Proofs.YtkbbegbpkndebaaGreat

/- Raw of the call's own (layer 13): its four slices, in memory that the call made. -/
namespace Go.Proofs.YtkbbegbpkndebaaGreat
open Go.RowKit Go.Lib
set_option linter.unusedVariables false
section
variable {α β : Type} {enc : α → List Value} {k : Nat} {T : TypeId} {enc' : β → List Value} {k' : Nat} {T' : TypeId}
end
/-- Slices alone. -/
def SlC (C : Array Value) : Prop := ∀ (i : Nat) x, C[i]? = some x → ∃ p n c, x = .slice p n c
/-- A row of slices of the call's own, in a block that has slices alone. -/
def OH (T : TypeId) (N : Nat) (w : World) (v : Value) (hs : List Hd) : Prop := OwnR encH 1 T N w v hs ∧ ∀ g, v.ownBlock = some g → ∃ C, BX w g C T ∧ SlC C
theorem OH.below {T : TypeId} {N : Nat} {w w' : World} {v : Value} {hs : List Hd} (h : OH T N w v hs) (hb : Below w.heap.size w w') : OH T N w' v hs := ⟨h.1.below hb, fun g hg => by
  obtain ⟨C, h1, h2⟩ := h.2 g hg
  exact ⟨C, h1.below hb, h2⟩⟩
theorem OH.slb {T : TypeId} {N : Nat} {w : World} {v : Value} {hs : List Hd} (h : OH T N w v hs) {g : Nat} (hg : v.ownBlock = some g) : SlB g w := by
  obtain ⟨C, h1, h2⟩ := h.2 g hg
  intro q x hx hq
  by_cases hc : ∃ i : Nat, C[i]? = some x
  · obtain ⟨i, hi⟩ := hc
    exact h2 i x hi
  · exact absurd hq (h1.ne hx (fun i e => hc ⟨i, e⟩))
theorem OH.put {T : TypeId} {N : Nat} {w : World} {v : Value} {hs : List Hd} {g : Nat} {C : Array Value} {t : TypeId} (h : OH T N w v hs) (hx : BX w g C t) (hne : T ≠ t) (i : Nat) (a : Value) : OH T N (w.setCell ⟨g, i, none⟩ a) v hs := by
  have ho := h.1.off hx hne
  refine ⟨h.1.set ho i a, fun g' hg' => ?_⟩
  obtain ⟨D, h1, h2⟩ := h.2 g' hg'
  exact ⟨D, h1.other (fun e => ho (by rw [hg', e])) i a, h2⟩
theorem flatH (hs : List Hd) : hs.flatMap encH = hs.map (fun x => Value.slice x.1 x.2.1 x.2.2) := by
  induction hs with
  | nil => rfl
  | cons x hs ih => rw [List.flatMap_cons, List.map_cons, ih]; rfl
/-- An element of such a row is set. -/
theorem OH.set {T : TypeId} {N : Nat} {w : World} {g n c : Nat} {hs : List Hd} (h : OH T N w (.slice (some ⟨g, 0, none⟩) n c) hs) (hl : hs.length = n) (j : Nat) (x : Hd) : OH T N (w.setCell ⟨g, j, none⟩ (.slice x.1 x.2.1 x.2.2)) (.slice (some ⟨g, 0, none⟩) n c) (hs.set j x) := by
  have h1 : w.ownsRow N T 1 (.slice (some ⟨g, 0, none⟩) n c) n (hs.flatMap encH) := by have := h.1; unfold OwnR at this; rwa [hl] at this
  have q := (World.ownsRow.stored h1 j (.slice x.1 x.2.1 x.2.2)).1
  refine ⟨?_, fun g' hg' => ?_⟩
  · unfold OwnR
    rw [List.length_set, hl]
    rw [flatH, List.map_set, ← flatH]
    exact q
  · obtain ⟨C, b1, b2⟩ := h.2 g' hg'
    obtain rfl : g = g' := by simpa [Value.ownBlock] using hg'
    refine ⟨C.setIfInBounds j (.slice x.1 x.2.1 x.2.2), b1.set j _, fun i y hy => ?_⟩
    rw [Array.getElem?_setIfInBounds] at hy
    split at hy
    · split at hy
      · cases hy; exact ⟨_, _, _, rfl⟩
      · cases hy
    · exact b2 i y hy
/-- Such a row is as it was, where one of another type is written. -/
theorem OH.other {T T' : TypeId} {N N' : Nat} {w : World} {v : Value} {hs hs' : List Hd} {g n c : Nat} (h : OH T N w v hs) (h' : OH T' N' w (.slice (some ⟨g, 0, none⟩) n c) hs') (hne : T ≠ T') (i : Nat) (a : Value) : OH T N (w.setCell ⟨g, i, none⟩ a) v hs := by
  obtain ⟨C, b1, _⟩ := h'.2 g (by simp [Value.ownBlock])
  exact h.put b1 hne i a
/-- What is held while raw is put together: the box that is read, the cell of the result. -/
def SC (w : World) (gB gR : Nat) (C : Array Value) (T T' : TypeId) (W : World) : Prop := Below w.heap.size w W ∧ BX W gB C T ∧ ∃ x0 x1 x2 x3, BX W gR #[x0, x1, x2, x3] T'
theorem SC.next {w : World} {gB gR : Nat} {C : Array Value} {T T' : TypeId} {W W' : World} (h : SC w gB gR C T T' W) (hb : Below W.heap.size W W') : SC w gB gR C T T' W' := by
  obtain ⟨h1, h2, x0, x1, x2, x3, h3⟩ := h
  exact ⟨bel_next h1 hb, h2.below hb, x0, x1, x2, x3, h3.below hb⟩
theorem SC.put {w : World} {gB gR : Nat} {C : Array Value} {T T' : TypeId} {W : World} (h : SC w gB gR C T T' W) (hne : gR ≠ gB) (hge : w.heap.size ≤ gR) (a b c d : Value) : SC w gB gR C T T' ((((W.setCell ⟨gR, 0, none⟩ a).setCell ⟨gR, 1, none⟩ b).setCell ⟨gR, 2, none⟩ c).setCell ⟨gR, 3, none⟩ d) := by
  obtain ⟨h1, h2, x0, x1, x2, x3, h3⟩ := h
  refine ⟨(((h1.setCell (p := ⟨gR, 0, none⟩) hge a).setCell (p := ⟨gR, 1, none⟩) hge b).setCell (p := ⟨gR, 2, none⟩) hge c).setCell (p := ⟨gR, 3, none⟩) hge d, (((h2.other hne 0 a).other hne 1 b).other hne 2 c).other hne 3 d, a, b, c, d, h3.put4 a b c d⟩
/-- The four rows of raw, the call's own. -/
structure OW (N : Nat) (w : World) (p1 : Option Addr) (n1 c1 : Nat) (p2 : Option Addr) (n2 c2 : Nat) (p3 : Option Addr) (n3 c3 : Nat) (p4 : Option Addr) (n4 c4 : Nat) (hs1 hs2 hs3 hs4 : List Hd) : Prop where
  o1 : OH 74 N w (.slice p1 n1 c1) hs1
  o2 : OH 76 N w (.slice p2 n2 c2) hs2
  o3 : OH 78 N w (.slice p3 n3 c3) hs3
  o4 : OH 80 N w (.slice p4 n4 c4) hs4
/-- What they point at. -/
structure RH (w : World) (hs1 hs2 hs3 hs4 : List Hd) (r : Rw) : Prop where
  s : RelH NSS w hs1 r.1
  t : RelH TS w hs2 r.2.1
  a : RelH AC w hs3 r.2.2.1
  g : RelH NN w hs4 r.2.2.2
theorem RH.below {w w' : World} {hs1 hs2 hs3 hs4 : List Hd} {r : Rw} (h : RH w hs1 hs2 hs3 hs4 r) (hb : Below w.heap.size w w') : RH w' hs1 hs2 hs3 hs4 r := ⟨h.s.below kept_ent hb, h.t.below kept_cel hb, h.a.below kept_acc hb, h.g.below kept_not hb⟩
theorem OwnR.rs {α : Type} {enc : α → List Value} {k : Nat} {T : TypeId} (hk : ∀ x, (enc x).length = k) {N : Nat} {w : World} {p : Option Addr} {n c : Nat} {l : List α} (h : OwnR enc k T N w (.slice p n c) l) : RS enc k w p n l ∧ CP p n c := by
  obtain ⟨p', c', he, h1, h2⟩ := h.open hk
  cases he
  exact ⟨h1, h2⟩
theorem OW.rm {N : Nat} {w : World} {p1 : Option Addr} {n1 c1 : Nat} {p2 : Option Addr} {n2 c2 : Nat} {p3 : Option Addr} {n3 c3 : Nat} {p4 : Option Addr} {n4 c4 : Nat} {hs1 hs2 hs3 hs4 : List Hd} {r : Rw} (h : OW N w p1 n1 c1 p2 n2 c2 p3 n3 c3 p4 n4 c4 hs1 hs2 hs3 hs4) (k : RH w hs1 hs2 hs3 hs4 r) : RM w p1 n1 c1 p2 n2 c2 p3 n3 c3 p4 n4 c4 r :=
  ⟨⟨hs1, (h.o1.1.rs encH_len).1, k.s⟩, ⟨hs2, (h.o2.1.rs encH_len).1, k.t⟩, ⟨hs3, (h.o3.1.rs encH_len).1, k.a⟩, ⟨hs4, (h.o4.1.rs encH_len).1, k.g⟩, (h.o1.1.rs encH_len).2, (h.o2.1.rs encH_len).2, (h.o3.1.rs encH_len).2, (h.o4.1.rs encH_len).2⟩
theorem Tryz.infoH1 : (Tryz.prog.info? 74).map (fun i => (i.zero, i.size, i.bytes)) = some (some (.slice none 0 0), 1, 24) := by kernel_rfl
theorem Tryz.infoH2 : (Tryz.prog.info? 76).map (fun i => (i.zero, i.size, i.bytes)) = some (some (.slice none 0 0), 1, 24) := by kernel_rfl
theorem Tryz.infoH3 : (Tryz.prog.info? 78).map (fun i => (i.zero, i.size, i.bytes)) = some (some (.slice none 0 0), 1, 24) := by kernel_rfl
theorem Tryz.infoH4 : (Tryz.prog.info? 80).map (fun i => (i.zero, i.size, i.bytes)) = some (some (.slice none 0 0), 1, 24) := by kernel_rfl
end Go.Proofs.YtkbbegbpkndebaaGreat

/- Raw copied, as the document's functions of layer 13 do it. -/
namespace Go.Proofs.YtkbbegbpkndebaaGreat
open Go.RowKit Go.Lib
set_option linter.unusedVariables false
/-- A row of the call's own is as it was, where a block of another type is written. -/
theorem OH.put4 {T : TypeId} {N : Nat} {w : World} {v : Value} {hs : List Hd} {g : Nat} {x y z u : Value} {t : TypeId} (h : OH T N w v hs) (hx : BX w g #[x, y, z, u] t) (hne : T ≠ t) (a b c d : Value) : OH T N ((((w.setCell ⟨g, 0, none⟩ a).setCell ⟨g, 1, none⟩ b).setCell ⟨g, 2, none⟩ c).setCell ⟨g, 3, none⟩ d) v hs :=
  (((h.put hx hne 0 a).put (hx.set 0 a) hne 1 b).put ((hx.set 0 a).set 1 b) hne 2 c).put (((hx.set 0 a).set 1 b).set 2 c) hne 3 d
end Go.Proofs.YtkbbegbpkndebaaGreat

/- Raw that has nothing, as the document's functions of layer 13 make it. -/
namespace Go.Proofs.YtkbbegbpkndebaaGreat
open Go.RowKit Go.Lib
set_option linter.unusedVariables false
theorem make_heads {t e : TypeId} (ht : Tryz.prog.underlying t = some (.slice e)) (hi : (Tryz.prog.info? e).map (fun i => (i.zero, i.size, i.bytes)) = some (some (.slice none 0 0), 1, 24)) (n : Nat) (hn : n ≤ 1000) : ∃ C : Array Value, (∀ w : World, (Instr.makeSlice t (.int .i64 (n : Int)) (.int .i64 (n : Int))).run Tryz.prog w = .ok (.slice (some ⟨w.heap.size, 0, none⟩) n n) (w.alloc (.cells C e))) ∧ ∀ (w : World) {N : Nat}, N ≤ w.heap.size → OH e N (w.alloc (.cells C e)) (.slice (some ⟨w.heap.size, 0, none⟩) n n) (List.replicate n (none, 0, 0)) := by
  obtain ⟨i0, hi, hz0, hz1, hz2⟩ := info_parts hi
  refine ⟨madeCells (Value.slice none 0 0).cells (n * i0.size), fun w => ?_, fun w N hN => ?_⟩
  · have h := run_make (P := Tryz.prog) w t e i0 (.slice none 0 0) ht hi hz0 .i64 .i64 (n : Int) (n : Int) (by omega) (Int.le_refl _) (by rw [hz2]; omega) (by omega)
    simpa using h
  · have q := World.ownsRow_lit (e := e) (size := 1) w (madeCells (Value.slice none 0 0).cells (n * i0.size)) n hN (by unfold maxLen; omega) (by rw [size_madeCells, hz1])
    have e1 : (madeCells (Value.slice none 0 0).cells (n * i0.size)).toList = (List.replicate n ((none, 0, 0) : Hd)).flatMap encH := by
      rw [hz1, Nat.mul_one, show (Value.slice none 0 0).cells = #[.slice none 0 0] from rfl, toList_madeCells_one]
      clear q
      induction n with
      | zero => rfl
      | succ n ih => rw [List.replicate_succ, List.replicate_succ, List.flatMap_cons, ← ih (by omega)]; rfl
    refine ⟨?_, fun g hg => ?_⟩
    · rw [e1] at q
      unfold OwnR
      rw [List.length_replicate]
      exact q
    · obtain rfl : w.heap.size = g := by simpa [Value.ownBlock] using hg
      refine ⟨_, heap_alloc_new w _, fun i y hy => ?_⟩
      have hy2 := List.mem_of_getElem? (l := (madeCells (Value.slice none 0 0).cells (n * i0.size)).toList) (i := i) (by rw [Array.getElem?_toList]; exact hy)
      rw [e1, flatH] at hy2
      obtain ⟨z, _, rfl⟩ := List.mem_map.1 hy2
      exact ⟨_, _, _, rfl⟩
theorem RelH.repl {α : Type} {I : LI α} (k : Kept I) (w : World) (n : Nat) : RelH I w (List.replicate n (none, 0, 0)) (List.replicate n []) := by
  refine ⟨by rw [List.length_replicate, List.length_replicate], fun i h l hh hl => ?_⟩
  rw [List.getElem?_replicate] at hh hl
  split at hh
  · rename_i hi
    rw [if_pos hi] at hl
    cases hh
    cases hl
    exact ⟨k.nil w none, Nat.le_refl _, by decide, fun _ => rfl⟩
  · cases hh
end Go.Proofs.YtkbbegbpkndebaaGreat

