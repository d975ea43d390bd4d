/- Texts of this claim, joined: H5, GAp, GPut. -/
import Derived.Test.YtkbbegbpkndebaaGreatJ1
import Derived.Test.YtkbbegbpkndebaaGreatJ10
import Derived.Test.YtkbbegbpkndebaaGreatJ12
import Derived.Test.YtkbbegbpkndebaaGreatJ4
import Derived.Test.YtkbbegbpkndebaaGreatJ5
/- Raw and kinds in memory (layer 13): slices of slices, and what keeps them. -/
namespace Go.Proofs.YtkbbegbpkndebaaGreat
open Go.RowKit Go.ChangeShapes Go.WideShapes
set_option linter.unusedVariables false
abbrev Hd := Option Addr × Nat × Nat
def encH (x : Hd) : List Value := [.slice x.1 x.2.1 x.2.2]
theorem encH_len (x : Hd) : (encH x).length = 1 := rfl
theorem encH_one (x : Hd) : ∀ v ∈ encH x, v.oneCell' = true := by
 intro v hv
 simp only [encH, List.mem_cons, List.not_mem_nil, or_false] at hv
 subst hv
 rfl
abbrev LI (α : Type) := World → Option Addr → Nat → List α → Prop
def SlB (g : Nat) (w : World) : Prop := ∀ q v, w.cell? q = some v → q.block = g → ∃ p n c, v = .slice p n c
structure Kept {α : Type} (I : LI α) : Prop where
 below : ∀ {w w' : World} {p : Option Addr} {m : Nat} {l : List α}, I w p m l → Below w.heap.size w w' → I w' p m l
 len : ∀ {w : World} {p : Option Addr} {m : Nat} {l : List α}, I w p m l → l.length = m
 nil : ∀ (w : World) (p : Option Addr), I w p 0 []
 kp : ∀ {w w' : World} {p : Option Addr} {m : Nat} {l : List α} {g : Nat}, I w p m l → KP g w w' → SlB g w → I w' p m l
def RelH {α : Type} (I : LI α) (w : World) (hs : List Hd) (ls : List (List α)) : Prop := hs.length = ls.length ∧ ∀ (i : Nat) h l, hs[i]? = some h → ls[i]? = some l → I w h.1 h.2.1 l ∧ CP h.1 h.2.1 h.2.2
def LS {α : Type} (I : LI α) (w : World) (a : Option Addr) (n : Nat) (ls : List (List α)) : Prop := ∃ hs, RS encH 1 w a n hs ∧ RelH I w hs ls
section
variable {α : Type} {I : LI α}
theorem RelH.below (k : Kept I) {w w' : World} {hs : List Hd} {ls : List (List α)} (h : RelH I w hs ls) (hb : Below w.heap.size w w') : RelH I w' hs ls := ⟨h.1, fun i x l hx hl => ⟨k.below (h.2 i x l hx hl).1 hb, (h.2 i x l hx hl).2⟩⟩
theorem RelH.kp (k : Kept I) {w w' : World} {g : Nat} {hs : List Hd} {ls : List (List α)} (h : RelH I w hs ls) (hp : KP g w w') (hs' : SlB g w) : RelH I w' hs ls := ⟨h.1, fun i x l hx hl => ⟨k.kp (h.2 i x l hx hl).1 hp hs', (h.2 i x l hx hl).2⟩⟩
theorem RelH.nil (w : World) : RelH I w [] [] := ⟨rfl, fun i x l hx => by simp at hx⟩
theorem RelH.set (k : Kept I) {w : World} {hs : List Hd} {ls : List (List α)} (h : RelH I w hs ls) (j : Nat) {x : Hd} {l : List α} (hx : I w x.1 x.2.1 l) (hc : CP x.1 x.2.1 x.2.2) : RelH I w (hs.set j x) (ls.set j l) := by
 refine ⟨by rw [List.length_set, List.length_set, h.1], fun i y m hy hm => ?_⟩
 rw [List.getElem?_set] at hy hm
 by_cases e : j = i
 ·subst e
  rw [if_pos rfl] at hy hm
  split at hy
  ·cases hy
   rw [if_pos (by rw [← h.1]; assumption)] at hm
   cases hm
   exact ⟨hx, hc⟩
  ·cases hy
 ·rw [if_neg e] at hy hm
  exact h.2 i y m hy hm
theorem LS.below (k : Kept I) {w w' : World} {a : Option Addr} {n : Nat} {ls : List (List α)} (h : LS I w a n ls) (hb : Below w.heap.size w w') : LS I w' a n ls := by
 obtain ⟨hs, h1, h2⟩ := h
 exact ⟨hs, h1.below hb, h2.below k hb⟩
theorem LS.len {w : World} {a : Option Addr} {n : Nat} {ls : List (List α)} (h : LS I w a n ls) : ls.length = n := by
 obtain ⟨hs, h1, h2⟩ := h
 rw [← h2.1, h1.1]
theorem LS.max {w : World} {a : Option Addr} {n : Nat} {ls : List (List α)} (h : LS I w a n ls) : n ≤ maxLen := by
 obtain ⟨hs, h1, h2⟩ := h
 exact h1.2.1
theorem LS.nil (w : World) (p : Option Addr) : LS I w p 0 [] := ⟨[], RS.nil w p, RelH.nil w⟩
theorem LS.addr {w : World} {a : Option Addr} {n : Nat} {ls : List (List α)} (h : LS I w a n ls) (h0 : 0 < n) : ∃ b off, a = some ⟨b, off, none⟩ := by
 obtain ⟨hs, h1, h2⟩ := h
 rcases h1.2.2 with hz | ⟨b, off, ha, _⟩
 ·omega
 ·exact ⟨b, off, ha⟩
theorem LS.at {w : World} {b off n : Nat} {ls : List (List α)} (h : LS I w (some ⟨b, off, none⟩) n ls) (i : Nat) (hi : i < n) : ∃ p m c l, ls[i]? = some l ∧ w.cell? ⟨b, off + i, none⟩ = some (.slice p m c) ∧ I w p m l ∧ CP p m c := by
 obtain ⟨hs, h1, h2⟩ := h
 obtain ⟨x, hx⟩ : ∃ x, hs[i]? = some x := ⟨_, List.getElem?_eq_getElem (by rw [h1.1]; exact hi)⟩
 obtain ⟨l, hl⟩ : ∃ l, ls[i]? = some l := ⟨_, List.getElem?_eq_getElem (by rw [← h2.1, h1.1]; exact hi)⟩
 rcases h1.2.2 with hz | ⟨b', off', ha, hc⟩
 ·omega
 ·cases ha
  have q := hc i x hx 0 _ rfl
  rw [Nat.mul_one, Nat.add_zero] at q
  exact ⟨x.1, x.2.1, x.2.2, l, hl, q, h2.2 i x l hx hl⟩
end
/-! The four kinds of lists -/
theorem rs_kp {α : Type} {enc : α → List Value} {k : Nat} (h0 : ∀ x, ∃ s : ByteArray, (enc x)[0]? = some (.string s)) {w w' : World} {g : Nat} {a : Option Addr} {n : Nat} {l : List α} (h : RS enc k w a n l) (hp : KP g w w') (hs : SlB g w) : RS enc k w' a n l := by
 obtain ⟨h1, h2, h3⟩ := h
 refine ⟨h1, h2, ?_⟩
 rcases h3 with hz | ⟨b, off, ha, hc⟩
 ·exact .inl hz
 ·rcases Nat.eq_zero_or_pos n with hz | hn
  ·exact .inl hz
  ·refine .inr ⟨b, off, ha, fun i x hi j v hj => hp _ _ (hc i x hi j v hj) (fun e => ?_)⟩
   obtain ⟨s, hs0⟩ := h0 x
   obtain ⟨p, m, c, e2⟩ := hs _ _ (hc i x hi 0 _ hs0) e
   cases e2
theorem ds_kp {w w' : World} {g : Nat} {a : Option Addr} {n : Nat} {l : List Dot} (h : DS w a n l) (hp : KP g w w') (hs : SlB g w) : DS w' a n l := by
 obtain ⟨h1, h2, h3⟩ := h
 refine ⟨h1, h2, ?_⟩
 rcases h3 with hz | ⟨b, off, ha, hc⟩
 ·exact .inl hz
 ·refine .inr ⟨b, off, ha, ?_⟩
  have fr : ∀ q (z : Int), w.cell? q = some (.int .i64 z) → w'.cell? q = some (.int .i64 z) := fun q z hq => hp q _ hq (fun e => by
   obtain ⟨p, m, c, e2⟩ := hs _ _ hq e
   cases e2)
  exact fun i hi => ⟨fr _ _ (hc i hi).1, fr _ _ (hc i hi).2⟩
theorem kept_ent : Kept NSS := by
 refine ⟨fun h hb => h.below hb, fun h => h.len, fun w p => NSS.nil w p, fun {w w' p m l g} h hp hs => ?_⟩
 obtain ⟨xs, h1, h2, h3⟩ := h
 refine ⟨xs, rs_kp (fun x => ⟨x.1, rfl⟩) h1 hp hs, h2, fun i x e hx he => ?_⟩
 obtain ⟨q1, q2, q3⟩ := h3 i x e hx he
 exact ⟨q1, ⟨ds_kp q2.1 hp hs, q2.2⟩, ⟨ds_kp q3.1 hp hs, q3.2⟩⟩
theorem kept_cel : Kept TS := ⟨fun h hb => TS.below h hb, fun h => h.1, fun w p => TS.nil w p, fun h hp hs => rs_kp (fun x => ⟨x.1, rfl⟩) h hp hs⟩
theorem kept_not : Kept NN := ⟨fun h hb => NN.below h hb, fun h => h.1, fun w p => NN.nil w p, fun h hp hs => rs_kp (fun x => ⟨x.1, rfl⟩) h hp hs⟩
theorem kept_acc : Kept AC := ⟨fun h hb => AC.below h hb, fun h => h.1.1, fun w p => AC.nil w p, fun h hp hs => ⟨rs_kp (fun x => ⟨x.1, rfl⟩) h.1 hp hs, h.2⟩⟩
/-! Raw -/
structure RM (w : World) (p1 : Option Addr) (n1 c1 : Nat) (p2 : Option Addr) (n2 c2 : Nat) (p3 : Option Addr) (n3 c3 : Nat) (p4 : Option Addr) (n4 c4 : Nat) (r : Rw) : Prop where
 s : LS NSS w p1 n1 r.1
 t : LS TS w p2 n2 r.2.1
 a : LS AC w p3 n3 r.2.2.1
 g : LS NN w p4 n4 r.2.2.2
 cs : CP p1 n1 c1
 ct : CP p2 n2 c2
 ca : CP p3 n3 c3
 cg : CP p4 n4 c4
theorem RM.below {w w' : World} {p1 : Option Addr} {n1 c1 : Nat} {p2 : Option Addr} {n2 c2 : Nat} {p3 : Option Addr} {n3 c3 : Nat} {p4 : Option Addr} {n4 c4 : Nat} {r : Rw} (h : RM w p1 n1 c1 p2 n2 c2 p3 n3 c3 p4 n4 c4 r) (hb : Below w.heap.size w w') : RM w' p1 n1 c1 p2 n2 c2 p3 n3 c3 p4 n4 c4 r :=
 ⟨h.s.below kept_ent hb, h.t.below kept_cel hb, h.a.below kept_acc hb, h.g.below kept_not hb, h.cs, h.ct, h.ca, h.cg⟩
theorem RM.none (w : World) : RM w none 0 0 none 0 0 none 0 0 none 0 0 ([], [], [], []) :=
 ⟨LS.nil _ _, LS.nil _ _, LS.nil _ _, LS.nil _ _, ⟨Nat.le_refl _, by decide, fun _ => rfl⟩, ⟨Nat.le_refl _, by decide, fun _ => rfl⟩, ⟨Nat.le_refl _, by decide, fun _ => rfl⟩, ⟨Nat.le_refl _, by decide, fun _ => rfl⟩⟩
/-! Kinds -/
def encBo (b : Bool) : List Value := [.bool b]
def encFl (f : Bool × Int) : List Value := [.bool f.1, .int .i64 f.2]
structure KM (w : World) (ps : Option Addr) (ns cs : Nat) (pc : Option Addr) (nc cc : Nat) (k : Kd) : Prop where
 s : RS encBo 1 w ps ns k.1
 c : RS encFl 2 w pc nc k.2.1
 ks : CP ps ns cs
 kc : CP pc nc cc
theorem KM.below {w w' : World} {ps : Option Addr} {ns cs : Nat} {pc : Option Addr} {nc cc : Nat} {k : Kd} (h : KM w ps ns cs pc nc cc k) (hb : Below w.heap.size w w') : KM w' ps ns cs pc nc cc k := ⟨h.s.below hb, h.c.below hb, h.ks, h.kc⟩
theorem rs_addr {α : Type} {enc : α → List Value} {k : Nat} {w : World} {a : Option Addr} {n : Nat} {l : List α} (h : RS enc k w a n l) (h0 : 0 < n) : ∃ b off, a = some ⟨b, off, none⟩ := by
 rcases h.2.2 with hz | ⟨b, off, ha, _⟩
 ·omega
 ·exact ⟨b, off, ha⟩
theorem floor_at {w : World} {b off n : Nat} {l : List (Bool × Int)} (h : RS encFl 2 w (some ⟨b, off, none⟩) n l) (i : Nat) (hi : i < n) : ∃ is fat, l[i]? = some (is, fat) ∧ w.cell? ⟨b, off + i * 2, none⟩ = some (.bool is) ∧ w.cell? ⟨b, off + i * 2 + 1, none⟩ = some (.int .i64 fat) := by
 have hl : i < l.length := by rw [h.1]; exact hi
 have hx : l[i]? = some l[i] := List.getElem?_eq_getElem hl
 rcases h.2.2 with h0 | ⟨b', off', ha, hc⟩
 ·omega
 ·cases ha
  have q := hc i _ hx
  exact ⟨l[i].1, l[i].2, hx, q 0 _ rfl, q 1 _ rfl⟩
theorem bool_at {w : World} {b off n : Nat} {l : List Bool} (h : RS encBo 1 w (some ⟨b, off, none⟩) n l) (i : Nat) (hi : i < n) : ∃ r, l[i]? = some r ∧ w.cell? ⟨b, off + i, none⟩ = some (.bool r) := by
 have hl : i < l.length := by rw [h.1]; exact hi
 have hx : l[i]? = some l[i] := List.getElem?_eq_getElem hl
 rcases h.2.2 with h0 | ⟨b', off', ha, hc⟩
 ·omega
 ·cases ha
  have q := hc i _ hx 0 _ rfl
  rw [Nat.mul_one, Nat.add_zero] at q
  exact ⟨l[i], hx, q⟩
end Go.Proofs.YtkbbegbpkndebaaGreat

/- 'append' of rows at an operation. -/
namespace Go.Proofs.YtkbbegbpkndebaaGreat
open Go.RowKit Go.Lib
set_option linter.unusedVariables false
section
variable {α : Type} {enc : α → List Value} {k : Nat} {T : TypeId}
theorem append_rg {w : World} {o : Oper} {a : Act} {K : Act → World → Prop} {Q : Exit → Act → World → Prop} (s x : Operand) (t : TypeId)
  (ho : o.op = .call { callee := .builtin .append, args := #[s, x], argTypes := #[t, t] })
  (ht : Tryz.prog.underlying t = some (.slice T)) {z : Value} {by_ : Nat} (hi : (Tryz.prog.info? T).map (fun i => (i.zero, i.size, i.bytes)) = some (some z, k, by_)) (hz : z.cells.size = k) (hk0 : 0 < k) (hby : by_ ≤ 1000)
  (hk : ∀ x, (enc x).length = k) (h1 : ∀ x, ∀ v ∈ enc x, v.oneCell' = true)
  (N : Nat) (v : Value) (l m : List α) (hs : a.eval s = v) (hown : OwnR enc k T N w v l) (p : Option Addr) (len cap : Nat) (hx : a.eval x = .slice p len cap) (hp : p = none → cap = 0) (hB : RS enc k w p len m)
  (hbig : l.length + m.length ≤ 1000000) (hN : N ≤ w.heap.size)
  (h : ∀ v' w', OwnR enc k T N w' v' (l ++ m) → w.grownBy w' v.ownBlock → (∀ w0, Below N w0 w → Below N w0 w') → K (a.put o.dst v') w') : Oper.wp Tryz.prog o a w K Q := by
 obtain ⟨i0, hi, hz0, hz1, hz2⟩ := info_parts hi
 have g1 := hB.1
 rcases p with _ | ad
 ·have hc := hp rfl
  have hl0 : len = 0 := by
   rcases hB.2.2 with h0 | ⟨b, off, hh, _⟩
   ·exact h0
   ·cases hh
  subst hc hl0
  obtain rfl : m = [] := List.eq_nil_of_length_eq_zero g1
  have hrun := run_append_owned_none (P := Tryz.prog) (w := w) N t o.type T i0 k ht hi v _ _ hown
  have hk := h v w (by rw [List.append_nil]; exact hown) ⟨rfl, rfl, rfl, Nat.le_refl _, fun _ _ _ => rfl⟩ (fun _ h => h)
  unfold Oper.wp execOp
  simp only [ho, resolve, invoke, builtin, Sem.run_bind, Sem.run_pure, Result.andThen_ok, List.map_toArray, List.map_cons, List.map_nil, hs, hx, hrun]
  exact hk
 ·have hmul : (l.length + len) * by_ ≤ 1000000 * 1000 := Nat.mul_le_mul (by omega) hby
  obtain ⟨v', w', hr, q1, q2, _⟩ := run_append_own (P := Tryz.prog) w N t o.type T i0 z k by_ ht hi hz0 hz1 hz2 hz hk0 v _ _ hown ad len cap (m.flatMap enc) (by rw [flatR_len enc k hk, g1])
   (by
    intro j u hj
    have hjl : j < m.length * k := by rw [← flatR_len enc k hk m]; exact (List.getElem?_eq_some_iff.1 hj).1
    rcases hB.2.2 with h0 | ⟨b, off, hh, hc⟩
    ·rw [g1, h0] at hjl; omega
    ·cases hh
     rw [addr_add]
     exact hB.cells j u hj hk hk0)
   (flatR_one enc h1 m) (by rw [← g1]; unfold maxLen; omega) (by omega) hN
  have e : l.length + len = (l ++ m).length := by rw [List.length_append, g1]
  rw [e, ← List.flatMap_append] at q1
  have hk := h v' w' q1 q2 (fun w0 hb => hb.grown q2 hN (fun j hj => (World.ownsRow.lt hown j hj).1))
  unfold Oper.wp execOp
  simp only [ho, resolve, invoke, builtin, Sem.run_bind, Sem.run_pure, Result.andThen_ok, List.map_toArray, List.map_cons, List.map_nil, hs, hx, hr]
  exact hk
end
theorem bel_put4N {w u : World} {g : Nat} (hb : Below w.heap.size w u) (hg : w.heap.size ≤ g) (a b c d : Value) : Below w.heap.size w ((((u.setCell ⟨g, 0, none⟩ a).setCell ⟨g, 1, none⟩ b).setCell ⟨g, 2, none⟩ c).setCell ⟨g, 3, none⟩ d) := (((hb.setCell (p := ⟨g, 0, none⟩) hg a).setCell (p := ⟨g, 1, none⟩) hg b).setCell (p := ⟨g, 2, none⟩) hg c).setCell (p := ⟨g, 3, none⟩) hg d
theorem takeP {P : Program} {md : Region.Mode} {ops : Array Oper} {Q : Exit → Act → World → Prop} (i d : Nat) (v : Value) {oi : Oper} {fuel : Nat} {listed : Array Bool} {a : Act} {w : World} (hi : ops[i]? = some oi) (hd : oi.dst = some d)
  (hs : Region.noSelect ops = true) (hf : Region.free md ops listed i = true) (hr : (Region.ready md ops listed).contains i = true)
  (hQ : ∀ c a w, Q (.panic c) (a.put oi.dst v) w → Q (.panic c) a w) (hw : Region.wanted oi (yielded ops a.tmps) = true) (hy : ∀ w, (execOp a.eval oi).run P w = .ok (.value v) w)
  (h : wpAny P md ops Q fuel (listed.setIfInBounds i true) (a.put (some d) v) w) : wpAny P md ops Q (fuel + 1) listed a w :=
 wpAny_take hi hs hf hr hQ (Or.inl ⟨hw, hy⟩) (by rw [hd]; exact h)
end Go.Proofs.YtkbbegbpkndebaaGreat

/- A struct of k cells stored into a block that is known whole: what the block holds then, and what stays. -/
namespace Go.Proofs.YtkbbegbpkndebaaGreat
open Go.RowKit
set_option linter.unusedVariables false
theorem BX.other {u : World} {g k : Nat} {C : Array Value} {t : TypeId} (h : BX u g C t) (hne : k ≠ g) (i : Nat) (v : Value) : BX (u.setCell ⟨k, i, none⟩ v) g C t := by
 unfold BX at *
 simp [World.setCell, Array.getElem?_modify, hne, h]
theorem BX.put3 {u : World} {g : Nat} {t : TypeId} {c0 c1 c2 : Value} (h : BX u g #[c0, c1, c2] t) (v0 v1 v2 : Value) :
  BX (((u.setCell ⟨g, 0, none⟩ v0).setCell ⟨g, 1, none⟩ v1).setCell ⟨g, 2, none⟩ v2) g #[v0, v1, v2] t ∧ KP g u (((u.setCell ⟨g, 0, none⟩ v0).setCell ⟨g, 1, none⟩ v1).setCell ⟨g, 2, none⟩ v2) ∧ (∀ B W0, Below B W0 u → B ≤ g → Below B W0 (((u.setCell ⟨g, 0, none⟩ v0).setCell ⟨g, 1, none⟩ v1).setCell ⟨g, 2, none⟩ v2)) ∧ ∀ k D r, BX u k D r → g ≠ k → BX (((u.setCell ⟨g, 0, none⟩ v0).setCell ⟨g, 1, none⟩ v1).setCell ⟨g, 2, none⟩ v2) k D r := by
 have h0 : BX (u.setCell ⟨g, 0, none⟩ v0) g #[v0, c1, c2] t := h.set 0 v0
 have h1 : BX ((u.setCell ⟨g, 0, none⟩ v0).setCell ⟨g, 1, none⟩ v1) g #[v0, v1, c2] t := h0.set 1 v1
 have h2 : BX (((u.setCell ⟨g, 0, none⟩ v0).setCell ⟨g, 1, none⟩ v1).setCell ⟨g, 2, none⟩ v2) g #[v0, v1, v2] t := h1.set 2 v2
 exact ⟨h2, ((((((KP.refl g u).set 0 v0)).set 1 v1)).set 2 v2), fun B W0 hb hB => ((((((hb).setCell hB _)).setCell hB _)).setCell hB _), fun k D r hk hne => ((((((hk).other hne 0 v0)).other hne 1 v1)).other hne 2 v2)⟩
end Go.Proofs.YtkbbegbpkndebaaGreat

