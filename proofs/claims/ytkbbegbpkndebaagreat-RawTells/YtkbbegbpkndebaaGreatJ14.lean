/- Texts of this claim, joined: H9. -/
import Derived.Laws.OwnMore
import Derived.Laws.Append
import Derived.Test.YtkbbegbpkndebaaGreatJ13
/- Raw of the call's own (layer 13): its four slices, in memory that the call made. -/
namespace Go.Proofs.YtkbbegbpkndebaaGreat
open Go.RowKit Go.Lib
set_option linter.unusedVariables false
section
variable {α β : Type} {enc : α → List Value} {k : Nat} {T : TypeId} {enc' : β → List Value} {k' : Nat} {T' : TypeId}
end
def SlC (C : Array Value) : Prop := ∀ (i : Nat) x, C[i]? = some x → ∃ p n c, x = .slice p n c
def OH (T : TypeId) (N : Nat) (w : World) (v : Value) (hs : List Hd) : Prop := OwnR encH 1 T N w v hs ∧ ∀ g, v.ownBlock = some g → ∃ C, BX w g C T ∧ SlC C
theorem OH.below {T : TypeId} {N : Nat} {w w' : World} {v : Value} {hs : List Hd} (h : OH T N w v hs) (hb : Below w.heap.size w w') : OH T N w' v hs := ⟨h.1.below hb, fun g hg => by
 obtain ⟨C, h1, h2⟩ := h.2 g hg
 exact ⟨C, h1.below hb, h2⟩⟩
theorem OH.slb {T : TypeId} {N : Nat} {w : World} {v : Value} {hs : List Hd} (h : OH T N w v hs) {g : Nat} (hg : v.ownBlock = some g) : SlB g w := by
 obtain ⟨C, h1, h2⟩ := h.2 g hg
 intro q x hx hq
 by_cases hc : ∃ i : Nat, C[i]? = some x
 ·obtain ⟨i, hi⟩ := hc
  exact h2 i x hi
 ·exact absurd hq (h1.ne hx (fun i e => hc ⟨i, e⟩))
theorem OH.put {T : TypeId} {N : Nat} {w : World} {v : Value} {hs : List Hd} {g : Nat} {C : Array Value} {t : TypeId} (h : OH T N w v hs) (hx : BX w g C t) (hne : T ≠ t) (i : Nat) (a : Value) : OH T N (w.setCell ⟨g, i, none⟩ a) v hs := by
 have ho := h.1.off hx hne
 refine ⟨h.1.set ho i a, fun g' hg' => ?_⟩
 obtain ⟨D, h1, h2⟩ := h.2 g' hg'
 exact ⟨D, h1.other (fun e => ho (by rw [hg', e])) i a, h2⟩
theorem flatH (hs : List Hd) : hs.flatMap encH = hs.map (fun x => Value.slice x.1 x.2.1 x.2.2) := by
 induction hs with
 | nil => rfl
 | cons x hs ih => rw [List.flatMap_cons, List.map_cons, ih]; rfl
theorem OH.set {T : TypeId} {N : Nat} {w : World} {g n c : Nat} {hs : List Hd} (h : OH T N w (.slice (some ⟨g, 0, none⟩) n c) hs) (hl : hs.length = n) (j : Nat) (x : Hd) : OH T N (w.setCell ⟨g, j, none⟩ (.slice x.1 x.2.1 x.2.2)) (.slice (some ⟨g, 0, none⟩) n c) (hs.set j x) := by
 have h1 : w.ownsRow N T 1 (.slice (some ⟨g, 0, none⟩) n c) n (hs.flatMap encH) := by have := h.1; unfold OwnR at this; rwa [hl] at this
 have q := (World.ownsRow.stored h1 j (.slice x.1 x.2.1 x.2.2)).1
 refine ⟨?_, fun g' hg' => ?_⟩
 ·unfold OwnR
  rw [List.length_set, hl]
  rw [flatH, List.map_set, ← flatH]
  exact q
 ·obtain ⟨C, b1, b2⟩ := h.2 g' hg'
  obtain rfl : g = g' := by simpa [Value.ownBlock] using hg'
  refine ⟨C.setIfInBounds j (.slice x.1 x.2.1 x.2.2), b1.set j _, fun i y hy => ?_⟩
  rw [Array.getElem?_setIfInBounds] at hy
  split at hy
  ·split at hy
   ·cases hy; exact ⟨_, _, _, rfl⟩
   ·cases hy
  ·exact b2 i y hy
theorem OH.other {T T' : TypeId} {N N' : Nat} {w : World} {v : Value} {hs hs' : List Hd} {g n c : Nat} (h : OH T N w v hs) (h' : OH T' N' w (.slice (some ⟨g, 0, none⟩) n c) hs') (hne : T ≠ T') (i : Nat) (a : Value) : OH T N (w.setCell ⟨g, i, none⟩ a) v hs := by
 obtain ⟨C, b1, _⟩ := h'.2 g (by simp [Value.ownBlock])
 exact h.put b1 hne i a
theorem run_append_zero (w : World) (t ty e : TypeId) (i : TypeInfo) (ht : Tryz.prog.underlying t = some (.slice e)) (hi : Tryz.prog.info? e = some i) (b a : Addr) (c : Nat) : (Builtin.append_ #[t, t] ty #[.slice (some b) 0 0, .slice (some a) 0 c]).run Tryz.prog w = .ok (.slice (some b) 0 0) w := by
 have hf := run_firstCells_some (P := Tryz.prog) w i.size 0 a 0 c [] (by simp) (by simp)
 simp [Builtin.append_, run_underlying ht, sizeOf, typeInfo, hi, Builtin.lenOf, hf, storeCells]
theorem append_fresh {w : World} {o : Oper} {a : Act} {K : Act → World → Prop} {Q : Exit → Act → World → Prop} (s x : Operand) (t : TypeId) {T : TypeId}
  (ho : o.op = .call { callee := .builtin .append, args := #[s, x], argTypes := #[t, t] })
  (ht : Tryz.prog.underlying t = some (.slice T)) (hi : (Tryz.prog.info? T).map (fun i => (i.zero, i.size, i.bytes)) = some (some (.slice none 0 0), 1, 24))
  (N g0 : Nat) (m : List Hd) (hs : a.eval s = .slice (some ⟨g0, 0, none⟩) 0 0) (hm : BX w g0 #[] T) (hg0 : N ≤ g0) (p : Option Addr) (len cap : Nat) (hx : a.eval x = .slice p len cap) (hp : p = none → cap = 0) (hB : RS encH 1 w p len m)
  (hbig : len ≤ 100000) (hN : N ≤ w.heap.size)
  (h : ∀ q d w', OH T N w' (.slice q len d) m → Below w.heap.size w w' → K (a.put o.dst (.slice q len d)) w') : Oper.wp Tryz.prog o a w K Q := by
 obtain ⟨i0, hi, hz0, hz1, hz2⟩ := info_parts hi
 have g1 := hB.1
 have own0 : w.ownsRow N T 1 (.slice (some ⟨g0, 0, none⟩) 0 0) 0 [] := ⟨by simp, .inr ⟨g0, 0, #[], rfl, hg0, hm, Nat.le_refl _, by decide, by simp, by simp⟩⟩
 have oh0 : OH T N w (.slice (some ⟨g0, 0, none⟩) 0 0) [] := by
  refine ⟨own0, fun g hg => ?_⟩
  obtain rfl : g0 = g := by simpa [Value.ownBlock] using hg
  exact ⟨#[], hm, fun i y hy => by simp at hy⟩
 rcases p with _ | ad
 ·have hc := hp rfl
  have hl0 : len = 0 := by
   rcases hB.2.2 with h0 | ⟨b, off, hh, _⟩
   ·exact h0
   ·cases hh
  subst hc hl0
  obtain rfl : m = [] := List.eq_nil_of_length_eq_zero g1
  have hrun := run_append_owned_none (P := Tryz.prog) (w := w) N t o.type T i0 1 ht hi _ _ _ own0
  have hk := h (some ⟨g0, 0, none⟩) 0 w oh0 (Below.refl _ _)
  unfold Oper.wp execOp
  simp only [ho, resolve, invoke, builtin, Sem.run_bind, Sem.run_pure, Result.andThen_ok, List.map_toArray, List.map_cons, List.map_nil, hs, hx, hrun]
  exact hk
 ·rcases Nat.eq_zero_or_pos len with hz | hpos
  ·subst hz
   obtain rfl : m = [] := List.eq_nil_of_length_eq_zero g1
   have hrun := run_append_zero w t o.type T i0 ht hi ⟨g0, 0, none⟩ ad cap
   have hk := h (some ⟨g0, 0, none⟩) 0 w oh0 (Below.refl _ _)
   unfold Oper.wp execOp
   simp only [ho, resolve, invoke, builtin, Sem.run_bind, Sem.run_pure, Result.andThen_ok, List.map_toArray, List.map_cons, List.map_nil, hs, hx, hrun]
   exact hk
  ·obtain ⟨b, off, hh, hc⟩ : ∃ b off, some ad = some ⟨b, off, none⟩ ∧ ∀ (i : Nat) x, m[i]? = some x → ∀ (j : Nat) v, (encH x)[j]? = some v → w.cell? ⟨b, off + i * 1 + j, none⟩ = some v := by
    rcases hB.2.2 with h0 | h0
    ·omega
    ·exact h0
   have hr := run_append_grow (P := Tryz.prog) w t o.type T i0 (.slice none 0 0) ht hi hz0 ⟨g0, 0, none⟩ 0 0 [] (by simp) (by intro j v hj; simp at hj) ad len cap (m.flatMap encH) (by rw [flatR_len encH 1 encH_len, g1, hz1])
    (by
     intro j u hj
     cases hh
     rw [addr_add]
     exact hB.cells j u hj encH_len (by decide))
    (by omega) (by omega) (growslice_fits (by omega) (by rw [hz2]; omega))
   simp only [Nat.zero_add] at hr
   have hge := grownCap_ge w len 0 T
   have hle := grownCap_le_maxLen w len 0 T (by unfold maxLen; omega)
   generalize grownCap w len 0 T = G at hr hge hle
   have hsl : SlC (([] : List Value).toArray ++ (m.flatMap encH).toArray ++ Builtin.zeroCells (Value.slice none 0 0).cells (G - len)) := by
    intro i y hy
    have hy := Array.mem_of_getElem? hy
    rw [flatH] at hy
    simp only [Array.mem_append, List.mem_toArray, List.mem_map, List.not_mem_nil, false_or] at hy
    rcases hy with ⟨z, _, rfl⟩ | hy
    ·exact ⟨_, _, _, rfl⟩
    ·simp [Builtin.zeroCells, Value.cells] at hy
     obtain ⟨j, _, rfl⟩ := hy
     rw [Nat.mod_one]
     exact ⟨none, 0, 0, rfl⟩
   have hsz : (([] : List Value).toArray ++ (m.flatMap encH).toArray ++ Builtin.zeroCells (Value.slice none 0 0).cells (G - len)).size = G * 1 := by
    simp only [Array.size_append, List.size_toArray, List.length_nil]
    rw [flatR_len encH 1 encH_len, g1]
    simp [Builtin.zeroCells, Value.cells]
    omega
   have htk : (([] : List Value).toArray ++ (m.flatMap encH).toArray ++ Builtin.zeroCells (Value.slice none 0 0).cells (G - len)).toList.take (len * 1) = m.flatMap encH := by
    simp only [Array.toList_append, List.nil_append]
    rw [List.take_append_of_le_length (by rw [flatR_len encH 1 encH_len, g1]; omega), List.take_of_length_le (by rw [flatR_len encH 1 encH_len, g1]; omega)]
   generalize ([] : List Value).toArray ++ (m.flatMap encH).toArray ++ Builtin.zeroCells (Value.slice none 0 0).cells (G - len) = C at hr hsl hsz htk
   have oh1 : OH T N (w.drew.alloc (.cells C T)) (.slice (some ⟨w.heap.size, 0, none⟩) len G) m := by
    refine ⟨?_, fun g hg => ?_⟩
    ·unfold OwnR
     rw [g1]
     exact ⟨by rw [flatR_len encH 1 encH_len, g1], .inr ⟨w.heap.size, G, C, rfl, hN, heap_alloc_new w.drew _, hge, hle, hsz, htk⟩⟩
    ·obtain rfl : w.heap.size = g := by simpa [Value.ownBlock] using hg
     exact ⟨C, heap_alloc_new w.drew _, hsl⟩
   have hk := h (some ⟨w.heap.size, 0, none⟩) G (w.drew.alloc (.cells C T)) oh1 (((Below.refl _ w).drew).alloc (Nat.le_refl _) _)
   unfold Oper.wp execOp
   simp only [ho, resolve, invoke, builtin, Sem.run_bind, Sem.run_pure, Result.andThen_ok, List.map_toArray, List.map_cons, List.map_nil, hs, hx, hr]
   exact hk
def SC (w : World) (gB gR : Nat) (C : Array Value) (T T' : TypeId) (W : World) : Prop := Below w.heap.size w W ∧ BX W gB C T ∧ ∃ x0 x1 x2 x3, BX W gR #[x0, x1, x2, x3] T'
theorem SC.next {w : World} {gB gR : Nat} {C : Array Value} {T T' : TypeId} {W W' : World} (h : SC w gB gR C T T' W) (hb : Below W.heap.size W W') : SC w gB gR C T T' W' := by
 obtain ⟨h1, h2, x0, x1, x2, x3, h3⟩ := h
 exact ⟨bel_next h1 hb, h2.below hb, x0, x1, x2, x3, h3.below hb⟩
theorem SC.put {w : World} {gB gR : Nat} {C : Array Value} {T T' : TypeId} {W : World} (h : SC w gB gR C T T' W) (hne : gR ≠ gB) (hge : w.heap.size ≤ gR) (a b c d : Value) : SC w gB gR C T T' ((((W.setCell ⟨gR, 0, none⟩ a).setCell ⟨gR, 1, none⟩ b).setCell ⟨gR, 2, none⟩ c).setCell ⟨gR, 3, none⟩ d) := by
 obtain ⟨h1, h2, x0, x1, x2, x3, h3⟩ := h
 refine ⟨(((h1.setCell (p := ⟨gR, 0, none⟩) hge a).setCell (p := ⟨gR, 1, none⟩) hge b).setCell (p := ⟨gR, 2, none⟩) hge c).setCell (p := ⟨gR, 3, none⟩) hge d, (((h2.other hne 0 a).other hne 1 b).other hne 2 c).other hne 3 d, a, b, c, d, h3.put4 a b c d⟩
structure OW (N : Nat) (w : World) (p1 : Option Addr) (n1 c1 : Nat) (p2 : Option Addr) (n2 c2 : Nat) (p3 : Option Addr) (n3 c3 : Nat) (p4 : Option Addr) (n4 c4 : Nat) (hs1 hs2 hs3 hs4 : List Hd) : Prop where
 o1 : OH 74 N w (.slice p1 n1 c1) hs1
 o2 : OH 76 N w (.slice p2 n2 c2) hs2
 o3 : OH 78 N w (.slice p3 n3 c3) hs3
 o4 : OH 80 N w (.slice p4 n4 c4) hs4
structure RH (w : World) (hs1 hs2 hs3 hs4 : List Hd) (r : Rw) : Prop where
 s : RelH NSS w hs1 r.1
 t : RelH TS w hs2 r.2.1
 a : RelH AC w hs3 r.2.2.1
 g : RelH NN w hs4 r.2.2.2
theorem RH.below {w w' : World} {hs1 hs2 hs3 hs4 : List Hd} {r : Rw} (h : RH w hs1 hs2 hs3 hs4 r) (hb : Below w.heap.size w w') : RH w' hs1 hs2 hs3 hs4 r := ⟨h.s.below kept_ent hb, h.t.below kept_cel hb, h.a.below kept_acc hb, h.g.below kept_not hb⟩
theorem OwnR.rs {α : Type} {enc : α → List Value} {k : Nat} {T : TypeId} (hk : ∀ x, (enc x).length = k) {N : Nat} {w : World} {p : Option Addr} {n c : Nat} {l : List α} (h : OwnR enc k T N w (.slice p n c) l) : RS enc k w p n l ∧ CP p n c := by
 obtain ⟨p', c', he, h1, h2⟩ := h.open hk
 cases he
 exact ⟨h1, h2⟩
theorem OW.rm {N : Nat} {w : World} {p1 : Option Addr} {n1 c1 : Nat} {p2 : Option Addr} {n2 c2 : Nat} {p3 : Option Addr} {n3 c3 : Nat} {p4 : Option Addr} {n4 c4 : Nat} {hs1 hs2 hs3 hs4 : List Hd} {r : Rw} (h : OW N w p1 n1 c1 p2 n2 c2 p3 n3 c3 p4 n4 c4 hs1 hs2 hs3 hs4) (k : RH w hs1 hs2 hs3 hs4 r) : RM w p1 n1 c1 p2 n2 c2 p3 n3 c3 p4 n4 c4 r :=
 ⟨⟨hs1, (h.o1.1.rs encH_len).1, k.s⟩, ⟨hs2, (h.o2.1.rs encH_len).1, k.t⟩, ⟨hs3, (h.o3.1.rs encH_len).1, k.a⟩, ⟨hs4, (h.o4.1.rs encH_len).1, k.g⟩, (h.o1.1.rs encH_len).2, (h.o2.1.rs encH_len).2, (h.o3.1.rs encH_len).2, (h.o4.1.rs encH_len).2⟩
theorem Tryz.infoH1 : (Tryz.prog.info? 74).map (fun i => (i.zero, i.size, i.bytes)) = some (some (.slice none 0 0), 1, 24) := by kernel_rfl
theorem Tryz.infoH2 : (Tryz.prog.info? 76).map (fun i => (i.zero, i.size, i.bytes)) = some (some (.slice none 0 0), 1, 24) := by kernel_rfl
theorem Tryz.infoH3 : (Tryz.prog.info? 78).map (fun i => (i.zero, i.size, i.bytes)) = some (some (.slice none 0 0), 1, 24) := by kernel_rfl
theorem Tryz.infoH4 : (Tryz.prog.info? 80).map (fun i => (i.zero, i.size, i.bytes)) = some (some (.slice none 0 0), 1, 24) := by kernel_rfl
end Go.Proofs.YtkbbegbpkndebaaGreat

