/- Texts of this claim, joined: CLaw, DMem, DFun1, WLen, WNum, WVal, WPut, WGet, WRefGet, WText, WGetText, WPack, WPacks, WOwnP, WUnpack, WRefUnpack, RPut, RRead, RRef, EMem, EFun1, DSeen. -/
import Derived.Test.YtohhlidlgibieaaK1
import Derived.SizedLaws
import Derived.OpenShut
import Derived.ProofKit
import Derived.Deep.RegionHeld3
import Derived.Sort.Grow
import Derived.Deep.Draws
import Derived.Lib.Tables
import Derived.Deep.RegionWith
import Derived.Laws.BytesArg
import Derived.Lib.ConvBytes
/- What the statements' 'awake' and 'light' do; and what a statement is told of a clock that came in. -/
namespace Go.Proofs.Ytohhlidlgibieaa
open Go.RowKit Go.ChangeShapes Go.WideShapes
set_option linter.unusedVariables false

/-- A clock that came in. -/
def InN (w : World) (v : Value) : Prop := ∃ a len cap l, v = .slice a len cap ∧ NS w a len l ∧ CP a len cap

theorem ns_of_cells {w : World} {x : Addr} {len cap : Nat} {zs : List Int} (hl : len ≤ cap) (hm : cap ≤ maxLen) (hz : zs.length = cap) (hcell : ∀ i, i < cap → w.cell? (x.add i) = some (.int .i64 (zs.getD i 0))) :
    NS w (some x) len (zs.take len) := by
  refine ⟨by rw [List.length_take]; omega, by omega, ?_⟩
  rcases Nat.eq_zero_or_pos len with h0 | hp
  · exact .inl h0
  · obtain ⟨b, off, spot⟩ := x
    have hspot : spot = none := by simpa [Addr.add] using World.cell?_spot (hcell 0 (by omega))
    subst hspot
    refine .inr ⟨b, off, rfl, fun i hi => ?_⟩
    have h1 := hcell i (by omega)
    have h2 : (zs.take len).getD i 0 = zs.getD i 0 := by simp [List.getD_eq_getElem?_getD, hi]
    rw [h2]
    by_cases hi0 : i = 0
    · subst hi0; simpa [Addr.add] using h1
    · simpa [Addr.add, hi0] using h1

set_option maxRecDepth 100000 in
theorem in_nums {H : Type} {enc : TypeId × Value → H} {W : World} {v : Value} {d : DataW H} {p : List MemPlace} {base : Nat} (hok : Value.okWide Try.prog W .any base 25 v) (h : DataW.Trod enc Try.prog W 0 (fun _ => true) true 25 v d p) (hw : ∀ n ∈ d.weights Try.prog 25, n ≤ reachBytes) : InN W v := by
  obtain ⟨a, len, cap, rfl⟩ := okWide_slice Try.underlying25 hok
  obtain ⟨fuel, hf⟩ := h
  rcases open_ints Try.underlying25 Try.underlying3 (by kernel_rfl) hf with ⟨hcs, _⟩ | ⟨x, l, c, zs, hcs, _, hl, hm, hz, hx, hcell, hwz⟩
  · simp [Value.cells] at hcs
    obtain ⟨rfl, rfl, rfl⟩ := hcs
    exact ⟨_, _, _, [], rfl, NS.nil _ _, Nat.le_refl _, by decide, fun _ => rfl⟩
  · simp [Value.cells] at hcs
    obtain ⟨rfl, rfl, rfl⟩ := hcs
    simp at hz
    simp only [Prod.mk.injEq] at hx
    obtain ⟨rfl, _⟩ := hx
    exact ⟨_, _, _, zs.take len, rfl, ns_of_cells hl hm hz (fun i hi => hcell i (by omega)), hl, hm, fun h => by cases h⟩

theorem CS.new (w : World) (g : Nat) (hg : g = w.heap.size) (qs : List (Option Addr × Nat × Nat × List Int)) (C : Array Value) (hC : C = (qs.map fun q => Value.slice q.1 q.2.1 q.2.2.1).toArray) (fr : Nat × Nat)
    (n : Nat) (hn : qs.length = n) (hmax : n ≤ maxLen) (ps : List (List Int)) (hps : ps = qs.map fun q => q.2.2.2) (hq : ∀ q ∈ qs, NS w q.1 q.2.1 q.2.2.2) :
    CS (w.alloc (.cells C 25 fr)) (some ⟨g, 0, none⟩) n ps := by
  subst hg hC hps
  refine ⟨by simpa using hn, hmax, .inr ⟨_, 0, rfl, fun i hi => ?_⟩⟩
  rw [World.cell?_alloc_mark]
  subst hn
  refine ⟨qs[i].1, qs[i].2.1, qs[i].2.2.1, by simp [hi], ?_⟩
  have := (hq qs[i] (List.getElem_mem hi)).alloc (.cells (qs.map fun q => Value.slice q.1 q.2.1 q.2.2.1).toArray 25 fr)
  simpa [List.getD_eq_getElem?_getD, hi] using this
theorem CS.two (w : World) (g : Nat) (hg : g = w.heap.size) (a b : Option Addr) (n cap m cap' : Nat) (c d : List Int) (hN : NS w a n c) (hM : NS w b m d) :
    CS (w.alloc (.cells #[.slice a n cap, .slice b m cap'] 25)) (some ⟨g, 0, none⟩) 2 [c, d] := by
  refine CS.new w g hg [(a, n, cap, c), (b, m, cap', d)] _ rfl _ 2 rfl (by decide) _ rfl ?_
  intro q hq
  simp only [List.mem_cons, List.not_mem_nil, or_false] at hq
  rcases hq with rfl | rfl
  · exact hN
  · exact hM
theorem CS.three (w : World) (g : Nat) (hg : g = w.heap.size) (a b e : Option Addr) (n cap m cap' k cap'' : Nat) (c d f : List Int) (hN : NS w a n c) (hM : NS w b m d) (hK : NS w e k f) :
    CS (w.alloc (.cells #[.slice a n cap, .slice b m cap', .slice e k cap''] 25)) (some ⟨g, 0, none⟩) 3 [c, d, f] := by
  refine CS.new w g hg [(a, n, cap, c), (b, m, cap', d), (e, k, cap'', f)] _ rfl _ 3 rfl (by decide) _ rfl ?_
  intro q hq
  simp only [List.mem_cons, List.not_mem_nil, or_false] at hq
  rcases hq with rfl | rfl | rfl
  · exact hN
  · exact hM
  · exact hK
theorem jAt_two (c d : List Int) (i : Nat) : jAt [c, d] i = max (at5 c i) (at5 d i) := by
  have h := at5_bd c i
  show max (max 0 (at5 c i)) (at5 d i) = _
  omega
theorem joins2 (c d : List Int) : [jAt [c, d] 0, jAt [c, d] 1, jAt [c, d] 2, jAt [c, d] 3, jAt [c, d] 4] = joinL c d := by simp only [jAt_two]; rfl
theorem jAt_three (c d f : List Int) (i : Nat) (hi : i < 5) : jAt [c, d, f] i = max (at5 f i) (at5 (pln (joinL c d)) i) := by
  have h := at5_bd c i
  rw [at5_join c d i hi]
  show max (max (max 0 (at5 c i)) (at5 d i)) (at5 f i) = _
  omega
theorem joins3 (c d f : List Int) : [jAt [c, d, f] 0, jAt [c, d, f] 1, jAt [c, d, f] 2, jAt [c, d, f] 3, jAt [c, d, f] 4] = joinL f (pln (joinL c d)) := by
  rw [jAt_three _ _ _ 0 (by omega), jAt_three _ _ _ 1 (by omega), jAt_three _ _ _ 2 (by omega), jAt_three _ _ _ 3 (by omega), jAt_three _ _ _ 4 (by omega)]; rfl

/-- 'Same' of what the call made. -/
theorem same_own (w : World) (N M : Nat) (v u : Value) (c d : List Int) (hv : OwnN N w v c) (hu : OwnN M w u d) (r : Bool) (hr : r = decide (c = d)) :
    Calls Try.prog 32 #[v, u] w fun e w' => e = .returned (.bool r) ∧ Below w.heap.size w w' := by
  obtain ⟨p, cp, rfl, h1, _⟩ := hv.open
  obtain ⟨q, cq, rfl, h2, _⟩ := hu.open
  subst hr
  exact same_any _ _ _ _ _ _ _ _ _ h1 h2

end Go.Proofs.Ytohhlidlgibieaa

/- Dots in memory: a slice's (DS), those of the call's own (OwnD); what 'May' does, the program's and the document's, and the document's 'All'. -/
namespace Go.Proofs.Ytohhlidlgibieaa
open Go.RowKit
set_option linter.unusedVariables false

def encD (d : Dot) : List Value := [.int .i64 d.1, .int .i64 d.2]
def flatD (l : List Dot) : List Value := l.flatMap encD
/-- A slice value's dots. -/
def DS (w : World) (a : Option Addr) (n : Nat) (l : List Dot) : Prop :=
  l.length = n ∧ n ≤ maxLen ∧ (n = 0 ∨ ∃ b off, a = some ⟨b, off, none⟩ ∧ ∀ i, i < n → w.cell? ⟨b, off + i * 2, none⟩ = some (.int .i64 (l.getD i (0, 0)).1) ∧ w.cell? ⟨b, off + i * 2 + 1, none⟩ = some (.int .i64 (l.getD i (0, 0)).2))
/-- A slice value whose dots lie in a block of the call's own, at 'N' or above. -/
def OwnD (N : Nat) (w : World) (v : Value) (l : List Dot) : Prop := w.ownsRow N 23 2 v l.length (flatD l)

theorem flatD_len (l : List Dot) : (flatD l).length = l.length * 2 := by
  induction l with
  | nil => rfl
  | cons d r ih => simp [flatD, encD] at *; omega
theorem flatD_app (l m : List Dot) : flatD (l ++ m) = flatD l ++ flatD m := by simp [flatD]
theorem flatD_get : ∀ (l : List Dot) (i : Nat), i < l.length → (flatD l)[i * 2]? = some (.int .i64 (l.getD i (0, 0)).1) ∧ (flatD l)[i * 2 + 1]? = some (.int .i64 (l.getD i (0, 0)).2)
  | [], i, h => by simp at h
  | d :: r, 0, _ => by simp [flatD, encD]
  | d :: r, i + 1, h => by
    have ih := flatD_get r i (by simpa using h)
    have e : flatD (d :: r) = .int .i64 d.1 :: .int .i64 d.2 :: flatD r := rfl
    rw [e, show (i + 1) * 2 = i * 2 + 1 + 1 by omega]
    simpa using ih
theorem flatD_one (l : List Dot) : ∀ v ∈ flatD l, v.oneCell' = true := by
  intro v hv
  simp only [flatD, List.mem_flatMap, encD] at hv
  obtain ⟨d, _, hd⟩ := hv
  simp only [List.mem_cons, List.not_mem_nil, or_false] at hd
  rcases hd with rfl | rfl <;> rfl

theorem bcell {u W : World} (hb : Below u.heap.size u W) {p : Addr} {v : Value} (h : u.cell? p = some v) : W.cell? p = some v := by
  rw [hb.cell (World.block_lt_of_cell? u _ h)]; exact h
theorem DS.ext {w w' : World} {a : Option Addr} {n : Nat} {l : List Dot} (h : DS w a n l) (hx : Ext w w') : DS w' a n l := by
  obtain ⟨h1, h2, h4⟩ := h
  refine ⟨h1, h2, ?_⟩
  rcases h4 with h0 | ⟨b, off, ha, hc⟩
  · exact .inl h0
  · exact .inr ⟨b, off, ha, fun i hi => ⟨hx _ _ (hc i hi).1, hx _ _ (hc i hi).2⟩⟩
theorem DS.below {w w' : World} {p : Option Addr} {len : Nat} {l : List Dot} (h : DS w p len l) (hb : Below w.heap.size w w') : DS w' p len l := h.ext ((Ext.refl w).below hb)
theorem DS.alloc {w : World} {p : Option Addr} {len : Nat} {l : List Dot} (h : DS w p len l) (o : Obj) : DS (w.alloc o) p len l := h.ext ((Ext.refl w).alloc o)
theorem DS.drew {w : World} {a : Option Addr} {n : Nat} {l : List Dot} (h : DS w a n l) : DS w.drew a n l := h
theorem DS.nil (w : World) (p : Option Addr) : DS w p 0 [] := ⟨rfl, by decide, .inl rfl⟩
theorem DS.new (w : World) (g : Nat) (hg : g = w.heap.size) (l : List Dot) (C : Array Value) (hC : C = (flatD l).toArray) (t : TypeId) (fr : Nat × Nat) (n : Nat) (hn : l.length = n) (hmax : n ≤ maxLen) :
    DS (w.alloc (.cells C t fr)) (some ⟨g, 0, none⟩) n l := by
  subst hg hC hn
  refine ⟨rfl, hmax, .inr ⟨_, 0, rfl, fun i hi => ?_⟩⟩
  have h := flatD_get l i hi
  rw [World.cell?_alloc_mark, World.cell?_alloc_mark]
  simpa using h
theorem DS.head {w : World} {a : Option Addr} {len : Nat} {l : List Dot} (hB : DS w a len l) (h : Nat) (h2 : h ≤ len) : DS w a h (l.take h) := by
  obtain ⟨g1, g2, g4⟩ := hB
  refine ⟨by rw [List.length_take]; omega, by omega, ?_⟩
  rcases Nat.eq_zero_or_pos h with h0 | hp
  · exact .inl h0
  · rcases g4 with h0 | ⟨b, off, rfl, hc⟩
    · omega
    · refine .inr ⟨b, off, rfl, fun t ht => ?_⟩
      have h4 : (l.take h).getD t (0, 0) = l.getD t (0, 0) := by simp [List.getD_eq_getElem?_getD, ht]
      rw [h4]
      exact hc t (by omega)

theorem OwnD.mono {N N' : Nat} {w : World} {v : Value} {l : List Dot} (h : OwnD N w v l) (hN : N' ≤ N) : OwnD N' w v l := ⟨h.1, h.2.imp id fun ⟨g, cap, cur, h1, h2, h3⟩ => ⟨g, cap, cur, h1, Nat.le_trans hN h2, h3⟩⟩
theorem OwnD.alloc {N : Nat} {w : World} {v : Value} {l : List Dot} (h : OwnD N w v l) (o : Obj) : OwnD N (w.alloc o) v l := World.ownsRow.alloc h o
theorem OwnD.drew {N : Nat} {w : World} {v : Value} {l : List Dot} (h : OwnD N w v l) : OwnD N w.drew v l := World.ownsRow.drew h
theorem OwnD.below {N : Nat} {w w' : World} {v : Value} {l : List Dot} (h : OwnD N w v l) (hb : Below w.heap.size w w') : OwnD N w' v l := by
  refine ⟨h.1, ?_⟩
  rcases h.2 with hn | ⟨g, cap, cur, rfl, hb', hgg, rest⟩
  · exact .inl hn
  · refine .inr ⟨g, cap, cur, rfl, hb', ?_, rest⟩
    rw [hb.block g (Array.getElem?_eq_some_iff.1 hgg).1]
    exact hgg
theorem OwnD.nil (N : Nat) (w : World) : OwnD N w (.slice none 0 0) [] := ⟨rfl, .inl ⟨rfl, rfl⟩⟩
theorem OwnD.open {N : Nat} {w : World} {v : Value} {l : List Dot} (h : OwnD N w v l) : ∃ p cap, v = .slice p l.length cap ∧ DS w p l.length l ∧ CP p l.length cap := by
  have h0 := h
  obtain ⟨_, h2⟩ := h
  rcases h2 with ⟨rfl, h2⟩ | ⟨g, cap, cur, rfl, hb, hg, hc1, hc2, hs, ht⟩
  · exact ⟨none, 0, by rw [h2], ⟨rfl, by rw [h2]; decide, .inl h2⟩, by omega, by decide, fun _ => rfl⟩
  · refine ⟨some ⟨g, 0, none⟩, cap, rfl, ⟨rfl, by omega, .inr ⟨g, 0, rfl, fun i hi => ?_⟩⟩, hc1, hc2, fun h => by cases h⟩
    have hf := flatD_get l i hi
    rw [Nat.zero_add, World.ownsRow.cellAt h0 (i * 2) (by omega), World.ownsRow.cellAt h0 (i * 2 + 1) (by omega)]
    exact hf
theorem OwnD.made (w : World) (N g : Nat) (hg : g = w.heap.size) (hN : N ≤ w.heap.size) : OwnD N (w.alloc (.cells #[] 23)) (.slice (some ⟨g, 0, none⟩) 0 0) [] := by
  subst hg; exact World.ownsRow_made w #[] 0 hN (by decide) rfl

theorem Try.infoDot : (Try.prog.info? 23).map (fun i => (i.zero, i.size, i.bytes)) = some (some (.agg #[.int .i64 0, .int .i64 0]), 2, 16) := by kernel_rfl

theorem mayTrue {r s : Int} (h1 : r ≥ 1) (h2 : r ≤ 5) (h3 : s ≥ 1) (h4 : s ≤ 1048576) : true = mayD (r, s) := (mayD_iff.2 ⟨h1, h2, h3, h4⟩).symm
theorem mayFalse {r s : Int} (h : ¬ (1 ≤ r ∧ r ≤ 5 ∧ 1 ≤ s ∧ s ≤ 1048576)) : false = mayD (r, s) := by
  symm; rw [← Bool.not_eq_true, mayD_iff]; exact h

end Go.Proofs.Ytohhlidlgibieaa

/- A drawn region's operations under a held condition; what 'May', 'Less', 'compare' do, the program's and the document's. -/
namespace Go.Proofs.Ytohhlidlgibieaa
open Go.RowKit
set_option linter.unusedVariables false

theorem takeInH {P : Program} {md : Region.Mode} {ops : Array Oper} {Q : Exit → Act → World → Prop} {S : World → Prop} (i d : Nat) (v : Value) {oi : Oper} {fuel : Nat} {listed : Array Bool} {a : Act} {w : World} (hi : ops[i]? = some oi) (hd : oi.dst = some d)
    (hs : Region.noSelect ops = true) (hf : Region.free md ops listed i = true) (hr : (Region.ready md ops listed).contains i = true)
    (hQ : ∀ c a w, Q (.panic c) (a.put oi.dst v) w → Q (.panic c) a w) (hw : Region.wanted oi (yielded ops a.tmps) = true) (hS : S w) (hy : ∀ w, S w → (execOp a.eval oi).run P w = .ok (.value v) w)
    (h : wpAnyH P md ops Q S fuel (listed.setIfInBounds i true) (a.put (some d) v) w) : wpAnyH P md ops Q S (fuel + 1) listed a w :=
  wpAnyH_take hi hs hf hr hQ (Or.inl ⟨hw, hy⟩) hS (by rw [hd]; exact h)
theorem takeNoH {P : Program} {md : Region.Mode} {ops : Array Oper} {Q : Exit → Act → World → Prop} {S : World → Prop} (i d : Nat) {oi : Oper} {fuel : Nat} {listed : Array Bool} {a : Act} {w : World} (hi : ops[i]? = some oi) (hd : oi.dst = some d)
    (hs : Region.noSelect ops = true) (hf : Region.free md ops listed i = true) (hr : (Region.ready md ops listed).contains i = true)
    (hQ : ∀ c a w, Q (.panic c) (a.put oi.dst undef) w → Q (.panic c) a w) (hw : Region.wanted oi (yielded ops a.tmps) = false) (hS : S w)
    (h : wpAnyH P md ops Q S fuel (listed.setIfInBounds i true) (a.put (some d) undef) w) : wpAnyH P md ops Q S (fuel + 1) listed a w :=
  wpAnyH_take hi hs hf hr hQ (Or.inr ⟨hw, rfl⟩) hS (by rw [hd]; exact h)

/-- Draws and new blocks alone. -/
def Gr (u W : World) : Prop := ∃ (q : Nat) (os : Array Obj), W = Sort.grow (u.drewN q) os
theorem Gr.refl (u : World) : Gr u u := ⟨0, #[], by rw [Sort.grow_empty]; rfl⟩
theorem Gr.drew {u W : World} (h : Gr u W) : Gr u W.drew := by
  obtain ⟨q, os, rfl⟩ := h
  exact ⟨q + 1, os, by rw [Sort.drew_grow]; rfl⟩
theorem Gr.alloc {u W : World} (h : Gr u W) (o : Obj) : Gr u (W.alloc o) := by
  obtain ⟨q, os, rfl⟩ := h
  exact ⟨q, os ++ #[o], by rw [Sort.alloc_eq_grow, Sort.grow_grow]⟩
theorem Gr.trans {a b c : World} (h : Gr a b) (k : Gr b c) : Gr a c := by
  obtain ⟨q, os, rfl⟩ := h
  obtain ⟨q', os', rfl⟩ := k
  refine ⟨q + q', os ++ os', ?_⟩
  rw [← Sort.grow_grow, ← World.drewN_drewN]
  rfl
theorem Gr.bel {u W : World} (h : Gr u W) : Below u.heap.size u W := by
  obtain ⟨q, os, rfl⟩ := h
  exact ⟨rfl, rfl, rfl, by simp [World.drewN], fun k hk => Sort.heap_grow_old (u.drewN q) os hk⟩

theorem cell_new (w : World) (C : Array Value) (t : TypeId) (g : Nat) (hg : g = w.heap.size) (i : Nat) (v : Value) (h : C[i]? = some v) : (w.alloc (.cells C t)).cell? ⟨g, i, none⟩ = some v := by
  subst hg; rw [World.cell?_alloc_mark]; exact h
theorem cell_old {w : World} (o : Obj) {p : Addr} {v : Value} (h : w.cell? p = some v) : (w.alloc o).cell? p = some v := bcell (bel1 w o) h
/-- A dot's box. -/
abbrev bxD (r s : Int) : Obj := .cells #[.int .i64 r, .int .i64 s] 23

set_option maxHeartbeats 400000 in
theorem May_any (r s : Int) (w : World) : Calls Try.prog 37 #[.agg #[.int .i64 r, .int .i64 s]] w fun e w' => e = .returned (.bool (mayD (r, s))) ∧ Gr w w' := by
  by_cases h1 : r ≥ 1
  · by_cases h2 : r ≤ 5
    · by_cases h3 : s ≥ 1
      · by_cases h4 : s ≤ 1048576
        · go_enter Try.func37, Try.ntmps37
          go_wp2
          go_ret
          exact ⟨retB (mayTrue h1 h2 h3 h4), (Gr.refl w).alloc _⟩
        · go_enter Try.func37, Try.ntmps37
          go_wp2
          go_ret
          exact ⟨retB (mayFalse (by omega)), (Gr.refl w).alloc _⟩
      · go_enter Try.func37, Try.ntmps37
        go_wp2
        go_ret
        exact ⟨retB (mayFalse (by omega)), (Gr.refl w).alloc _⟩
    · go_enter Try.func37, Try.ntmps37
      go_wp2
      go_ret
      exact ⟨retB (mayFalse (by omega)), (Gr.refl w).alloc _⟩
  · go_enter Try.func37, Try.ntmps37
    go_wp2
    go_ret
    exact ⟨retB (mayFalse (by omega)), (Gr.refl w).alloc _⟩

set_option maxHeartbeats 400000 in
theorem MayR_any (r s : Int) (w : World) : Calls Try.prog 33 #[.agg #[.int .i64 r, .int .i64 s]] w fun e w' => e = .returned (.bool (mayD (r, s))) ∧ Gr w w' := by
  by_cases h1 : r ≥ 1
  · by_cases h2 : r ≤ 5
    · by_cases h3 : s ≥ 1
      · by_cases h4 : s ≤ 1048576
        · go_enter Try.func33, Try.ntmps33
          go_wp2
          go_ret
          exact ⟨retB (mayTrue h1 h2 h3 h4), (Gr.refl w).alloc _⟩
        · go_enter Try.func33, Try.ntmps33
          go_wp2
          go_ret
          exact ⟨retB (mayFalse (by omega)), (Gr.refl w).alloc _⟩
      · go_enter Try.func33, Try.ntmps33
        go_wp2
        go_ret
        exact ⟨retB (mayFalse (by omega)), (Gr.refl w).alloc _⟩
    · go_enter Try.func33, Try.ntmps33
      go_wp2
      go_ret
      exact ⟨retB (mayFalse (by omega)), (Gr.refl w).alloc _⟩
  · go_enter Try.func33, Try.ntmps33
    go_wp2
    go_ret
    exact ⟨retB (mayFalse (by omega)), (Gr.refl w).alloc _⟩

/-- 'cmp.Compare' of two numbers. -/
def cmpI (x y : Int) : Int := if x < y then -1 else if x > y then 1 else 0
theorem nan_any (x : Int) (w : World) : Calls Try.prog 88 #[.int .i64 x] w fun e w' => e = .returned (.bool false) ∧ w' = w := by
  go_enter Try.func88, Try.ntmps88
  go_wp2
  go_ret
  exact ⟨retB (by simp), rfl⟩
theorem cmpI_any (x y : Int) (w : World) : Calls Try.prog 71 #[.int .i64 x, .int .i64 y] w fun e w' => e = .returned (.int .i64 (cmpI x y)) ∧ w' = w := by
  by_cases h1 : x < y
  · have HE : Hid (-1 = cmpI x y) := by unfold Hid cmpI; rw [if_pos h1]
    go_enter Try.func71, Try.ntmps71
    go_wp2_with (go_at_call 88; refine (nan_any _ _).mono ?_; rintro e w' ⟨rfl, rfl⟩)
    go_ret
    exact ⟨ret_int HE.out, rfl⟩
  · by_cases h2 : x > y
    · have HE : Hid (1 = cmpI x y) := by unfold Hid cmpI; rw [if_neg h1, if_pos h2]
      go_enter Try.func71, Try.ntmps71
      go_wp2_with (go_at_call 88; refine (nan_any _ _).mono ?_; rintro e w' ⟨rfl, rfl⟩)
      go_ret
      exact ⟨ret_int HE.out, rfl⟩
    · have HE : Hid (0 = cmpI x y) := by unfold Hid cmpI; rw [if_neg h1, if_neg h2]
      go_enter Try.func71, Try.ntmps71
      go_wp2_with (go_at_call 88; refine (nan_any _ _).mono ?_; rintro e w' ⟨rfl, rfl⟩)
      go_ret
      exact ⟨ret_int HE.out, rfl⟩
def orI (x y : Int) : Int := if x = 0 then y else x
set_option maxHeartbeats 400000 in
theorem or_any (w : World) (g : Nat) (x y : Int) (c0 : w.cell? ⟨g, 0, none⟩ = some (.int .i64 x)) (c1 : w.cell? ⟨g, 1, none⟩ = some (.int .i64 y)) :
    Calls Try.prog 70 #[.slice (some ⟨g, 0, none⟩) 2 2] w fun e w' => e = .returned (.int .i64 (orI x y)) ∧ w' = w := by
  by_cases h1 : x = 0
  · by_cases h2 : y = 0
    · have HE : Hid (0 = orI x y) := by unfold Hid orI; rw [if_pos h1, h2]
      go_enter Try.func70, Try.ntmps70
      go_wp2
      refine wp_loop_rounds 3 ?_
      rw [rounds_succ]
      go_wp2
      rw [rounds_succ]
      go_wp2
      rw [rounds_succ]
      go_wp2
      go_ret
      exact ⟨ret_int HE.out, rfl⟩
    · have HE : Hid (y = orI x y) := by unfold Hid orI; rw [if_pos h1]
      go_enter Try.func70, Try.ntmps70
      go_wp2
      refine wp_loop_rounds 3 ?_
      rw [rounds_succ]
      go_wp2
      rw [rounds_succ]
      go_wp2
      go_ret
      exact ⟨ret_int HE.out, rfl⟩
  · have HE : Hid (x = orI x y) := by unfold Hid orI; rw [if_neg h1]
    go_enter Try.func70, Try.ntmps70
    go_wp2
    refine wp_loop_rounds 3 ?_
    rw [rounds_succ]
    go_wp2
    go_ret
    exact ⟨ret_int HE.out, rfl⟩
theorem orI_is (a b : Dot) : orI (cmpI a.1 b.1) (cmpI a.2 b.2) = cmpD a b := by
  obtain ⟨a1, a2⟩ := a
  obtain ⟨b1, b2⟩ := b
  unfold orI cmpI cmpD lessD
  simp only [decide_eq_true_iff]
  split <;> split <;> (try split) <;> (try split) <;> (try split) <;> omega

set_option maxHeartbeats 1000000 in
theorem compare_any (x y : Dot) (w : World) : Calls Try.prog 76 #[.agg #[.int .i64 x.1, .int .i64 x.2], .agg #[.int .i64 y.1, .int .i64 y.2]] w fun e w' => e = .returned (.int .i64 (cmpD x y)) ∧ Gr w w' := by
  have HE := hide (orI_is x y)
  obtain ⟨r, s⟩ := x
  obtain ⟨r', s'⟩ := y
  have HU := hide (((Gr.refl w).alloc (bxD r s)).alloc (bxD r' s'))
  go_enter Try.func76, Try.ntmps76
  go_wp2
  have c0 : ((w.alloc (bxD r s)).alloc (bxD r' s')).cell? ⟨w.heap.size, 0, none⟩ = some (.int .i64 r) := cell_old _ (cell_new w _ _ _ rfl 0 _ rfl)
  have c1 : ((w.alloc (bxD r s)).alloc (bxD r' s')).cell? ⟨w.heap.size, 1, none⟩ = some (.int .i64 s) := cell_old _ (cell_new w _ _ _ rfl 1 _ rfl)
  have c2 : ((w.alloc (bxD r s)).alloc (bxD r' s')).cell? ⟨w.heap.size + 1, 0, none⟩ = some (.int .i64 r') := cell_new _ _ _ _ (by simp) 0 _ rfl
  have c3 : ((w.alloc (bxD r s)).alloc (bxD r' s')).cell? ⟨w.heap.size + 1, 1, none⟩ = some (.int .i64 s') := cell_new _ _ _ _ (by simp) 1 _ rfl
  generalize ((w.alloc (bxD r s)).alloc (bxD r' s')) = u at *
  refine wp_region_held_drew (S := fun W => Gr u W) (by kernel_rfl) ((Gr.refl u).drew) (fun hS0 => ?_)
  refine takeInH 0 5 ?v1 rfl rfl (by kernel_rfl) (by kernel_rfl) (by kernel_rfl) (fun _ _ _ h => h) (by kernel_rfl) hS0 ?hy1 ?_
  case hy1 => (intro W hW; clear hW; go_simp; try rfl)
  simp only [Act.put, List.setIfInBounds_toArray, List.set_cons_zero, List.set_cons_succ]
  refine takeInH 1 6 ?v2 rfl rfl (by kernel_rfl) (by kernel_rfl) (by kernel_rfl) (fun _ _ _ h => h) (by kernel_rfl) hS0 ?hy2 ?_
  case hy2 => (intro W hW; have e0 := bcell hW.bel c0; have e1 := bcell hW.bel c1; have e2 := bcell hW.bel c2; have e3 := bcell hW.bel c3; clear hW; go_simp; try rfl)
  simp only [Act.put, List.setIfInBounds_toArray, List.set_cons_zero, List.set_cons_succ]
  refine takeInH 2 7 ?v3 rfl rfl (by kernel_rfl) (by kernel_rfl) (by kernel_rfl) (fun _ _ _ h => h) (by kernel_rfl) hS0 ?hy3 ?_
  case hy3 => (intro W hW; clear hW; go_simp; try rfl)
  simp only [Act.put, List.setIfInBounds_toArray, List.set_cons_zero, List.set_cons_succ]
  refine takeInH 3 8 ?v4 rfl rfl (by kernel_rfl) (by kernel_rfl) (by kernel_rfl) (fun _ _ _ h => h) (by kernel_rfl) hS0 ?hy4 ?_
  case hy4 => (intro W hW; have e0 := bcell hW.bel c0; have e1 := bcell hW.bel c1; have e2 := bcell hW.bel c2; have e3 := bcell hW.bel c3; clear hW; go_simp; try rfl)
  simp only [Act.put, List.setIfInBounds_toArray, List.set_cons_zero, List.set_cons_succ]
  refine takeInH 5 10 ?v5 rfl rfl (by kernel_rfl) (by kernel_rfl) (by kernel_rfl) (fun _ _ _ h => h) (by kernel_rfl) hS0 ?hy5 ?_
  case hy5 => (intro W hW; clear hW; go_simp; try rfl)
  simp only [Act.put, List.setIfInBounds_toArray, List.set_cons_zero, List.set_cons_succ]
  refine takeInH 6 11 ?v6 rfl rfl (by kernel_rfl) (by kernel_rfl) (by kernel_rfl) (fun _ _ _ h => h) (by kernel_rfl) hS0 ?hy6 ?_
  case hy6 => (intro W hW; have e0 := bcell hW.bel c0; have e1 := bcell hW.bel c1; have e2 := bcell hW.bel c2; have e3 := bcell hW.bel c3; clear hW; go_simp; try rfl)
  simp only [Act.put, List.setIfInBounds_toArray, List.set_cons_zero, List.set_cons_succ]
  refine takeInH 7 12 ?v7 rfl rfl (by kernel_rfl) (by kernel_rfl) (by kernel_rfl) (fun _ _ _ h => h) (by kernel_rfl) hS0 ?hy7 ?_
  case hy7 => (intro W hW; clear hW; go_simp; try rfl)
  simp only [Act.put, List.setIfInBounds_toArray, List.set_cons_zero, List.set_cons_succ]
  refine takeInH 8 13 ?v8 rfl rfl (by kernel_rfl) (by kernel_rfl) (by kernel_rfl) (fun _ _ _ h => h) (by kernel_rfl) hS0 ?hy8 ?_
  case hy8 => (intro W hW; have e0 := bcell hW.bel c0; have e1 := bcell hW.bel c1; have e2 := bcell hW.bel c2; have e3 := bcell hW.bel c3; clear hW; go_simp; try rfl)
  simp only [Act.put, List.setIfInBounds_toArray, List.set_cons_zero, List.set_cons_succ]
  refine wpAnyH_ready (rs := [4]) (by kernel_rfl) (by simp) ?_
  refine AllReadyH.cons rfl (fun K hK => ?_) AllReadyH.nil
  go_simp
  refine (cmpI_any _ _ _).mono ?_
  rintro e w' ⟨rfl, hw⟩
  subst hw
  try go_wp2_with fail
  refine hK.out _ _ ?hs9 (fun hS1 => ?_)
  case hs9 => exact hS0
  clear hK K
  try simp only [Act.put, List.setIfInBounds_toArray, List.set_cons_zero, List.set_cons_succ]
  refine wpAnyH_ready (rs := [9]) (by kernel_rfl) (by simp) ?_
  refine AllReadyH.cons rfl (fun K hK => ?_) AllReadyH.nil
  go_simp
  refine (cmpI_any _ _ _).mono ?_
  rintro e w' ⟨rfl, hw⟩
  subst hw
  try go_wp2_with fail
  refine hK.out _ _ ?hs10 (fun hS2 => ?_)
  case hs10 => exact hS1
  clear hK K
  try simp only [Act.put, List.setIfInBounds_toArray, List.set_cons_zero, List.set_cons_succ]
  refine wpAnyH_ready (rs := [10]) (by kernel_rfl) (by simp) ?_
  refine AllReadyH.cons rfl (fun K hK => ?_) AllReadyH.nil
  go_simp
  refine hK.out _ _ ?hs11 (fun hS3 => ?_)
  case hs11 => exact hS2.alloc _
  clear hK K
  try simp only [Act.put, List.setIfInBounds_toArray, List.set_cons_zero, List.set_cons_succ]
  refine wpAnyH_ready (rs := [11]) (by kernel_rfl) (by simp) ?_
  refine AllReadyH.cons rfl (fun K hK => ?_) AllReadyH.nil
  go_simp
  refine Calls.mono (or_any _ _ (cmpI r r') (cmpI s s') ?_ ?_) ?_
  · exact cell_new _ _ _ _ rfl 0 _ rfl
  · exact cell_new _ _ _ _ rfl 1 _ rfl
  rintro e w' ⟨rfl, hw⟩
  subst hw
  try go_wp2_with fail
  refine hK.out _ _ ?hs12 (fun hS4 => ?_)
  case hs12 => exact hS3
  clear hK K
  try simp only [Act.put, List.setIfInBounds_toArray, List.set_cons_zero, List.set_cons_succ]
  refine takeInH 12 4 ?v13 rfl rfl (by kernel_rfl) (by kernel_rfl) (by kernel_rfl) (fun _ _ _ h => h) (by kernel_rfl) hS4 ?hy13 ?_
  case hy13 => (intro W hW; clear hW; go_simp; try rfl)
  simp only [Act.put, List.setIfInBounds_toArray, List.set_cons_zero, List.set_cons_succ]
  refine wpAnyH_done (by kernel_rfl) ?_ _
  go_wp2
  go_ret
  exact ⟨ret_int HE.out, HU.out.trans (by assumption)⟩

set_option maxHeartbeats 400000 in
theorem Less_any (x y : Dot) (w : World) : Calls Try.prog 89 #[.agg #[.int .i64 x.1, .int .i64 x.2], .agg #[.int .i64 y.1, .int .i64 y.2]] w fun e w' => e = .returned (.bool (lessD x y)) ∧ Gr w w' := by
  have HC := hide (fun W => compare_any x y W)
  have HE : Hid (decide (cmpD x y < 0) = lessD x y) := by unfold Hid; rw [Bool.eq_iff_iff, decide_eq_true_iff]; exact cmpD_lt
  obtain ⟨r, s⟩ := x
  obtain ⟨r', s'⟩ := y
  have HU := hide (((Gr.refl w).alloc (bxD r s)).alloc (bxD r' s'))
  generalize cmpD (r, s) (r', s') = c at HC HE
  go_enter Try.func89, Try.ntmps89
  go_wp2_with (go_at_call 76; refine (HC.out _).mono ?_; rintro e w' ⟨rfl, hg⟩)
  go_ret
  exact ⟨retB HE.out, HU.out.trans hg⟩
end Go.Proofs.Ytohhlidlgibieaa

/- math/bits.Len64: how many bits; in bytes, rounded up, it is 'nb'. -/
namespace Go.Proofs.Ytohhlidlgibieaa
open Go.RowKit

set_option maxRecDepth 100000 in
theorem tab_all : ∀ y : Fin 256, Lib.len8tab.data[y.1]!.toNat ≤ 8 ∧ (Lib.len8tab.data[y.1]!.toNat = 0 ↔ y.1 = 0) := by decide +kernel
set_option maxRecDepth 100000 in
theorem tab_size : Lib.len8tab.size = 256 := by decide +kernel
theorem tab_get (y : Nat) (h : y < Lib.len8tab.size) : (Lib.len8tab[y]'h).toNat ≤ 8 ∧ ((Lib.len8tab[y]'h).toNat = 0 ↔ y = 0) := by
  have h' : y < 256 := by rw [← tab_size]; exact h
  have := tab_all ⟨y, h'⟩
  have e : Lib.len8tab[y]'h = Lib.len8tab.data[y]! := by
    have hd : y < Lib.len8tab.data.size := h
    rw [getElem!_pos Lib.len8tab.data y hd]; rfl
  rw [e]; exact this
theorem nb_way (j : Nat) (x : Int) (hx : 0 ≤ x) (hj : j ≤ 7) (h1 : 1 ≤ x / 256 ^ j) (h2 : x / 256 ^ j < 256) : nb x = j + 1 := by
  have hp := pow_pos' j
  refine nb_is x (j + 1) hx (by omega) ?_ (.inr ?_)
  · rw [pow_s, Int.mul_comm]
    have := (Int.ediv_lt_iff_lt_mul hp).1 h2
    exact this
  · rw [Nat.add_sub_cancel]
    have := (Int.le_ediv_iff_mul_le hp).1 h1
    omega
theorem len_fin (j : Nat) (x y : Int) (h : y.toNat < Lib.len8tab.size) (hx : 0 ≤ x) (hj : j ≤ 7) (hy : y = x / 256 ^ j) (h2 : y < 256) (hlo : j = 0 ∨ 1 ≤ y) :
    ∃ t : Nat, (Lib.len8tab[y.toNat]'h).toNat = t ∧ t ≤ 8 ∧ (8 * (j : Int) + t + 7) / 8 = nb x := by
  obtain ⟨g1, g2⟩ := tab_get y.toNat h
  refine ⟨_, rfl, g1, ?_⟩
  by_cases h0 : 1 ≤ y
  · rw [nb_way j x hx hj (by omega) (by omega)]
    have : (Lib.len8tab[y.toNat]'h).toNat ≠ 0 := fun e => by have := g2.1 e; omega
    omega
  · have hj0 : j = 0 := by omega
    subst hj0
    simp at hy
    subst hy
    have hx0 : y = 0 := by omega
    have : (Lib.len8tab[y.toNat]'h).toNat = 0 := g2.2 (by omega)
    rw [this, hx0]
    decide
theorem wrap_a (k t : Nat) (hk : k ≤ 56) (ht : t ≤ 8) : wrap64 ((k : Int) + wrap64 (t : Int)) = (k : Int) + t := by unfold wrap64; omega
theorem wrap_b (t : Nat) (ht : t ≤ 8) : wrap64 (wrap64 (t : Int)) = (t : Int) := by unfold wrap64; omega

set_option maxRecDepth 100000 in
set_option maxHeartbeats 4000000 in
theorem len64_any (x : Int) (w : World) (h0 : 0 ≤ x) (h1 : x < 18446744073709551616) :
    Calls Try.prog 79 #[.int .u64 x] w fun e w' => ∃ L : Int, e = .returned (.int .i64 L) ∧ 0 ≤ L ∧ L ≤ 64 ∧ (L + 7) / 8 = nb x ∧ w' = w := by
  have ts := tab_size
  by_cases c1 : 4294967296 ≤ x
  · by_cases c2 : 65536 ≤ x / 4294967296
    · by_cases c3 : 256 ≤ x / 4294967296 / 65536
      · obtain ⟨t, ht, ht8, hn⟩ := len_fin 7 x (x / 4294967296 / 65536 / 256) (by omega) h0 (by omega) (by omega) (by omega) (.inr (by omega))
        have A := hide (And.intro ht hn)
        clear ht hn
        go_enter Try.func79, Try.ntmps79
        go_wp2
        go_ret
        obtain ⟨ht, hn⟩ := unhide A
        refine ⟨_, rfl, ?_⟩
        erw [ht, wrap_a 56 t (by omega) ht8]
        exact ⟨by omega, by omega, hn, rfl⟩
      · obtain ⟨t, ht, ht8, hn⟩ := len_fin 6 x (x / 4294967296 / 65536) (by omega) h0 (by omega) (by omega) (by omega) (.inr (by omega))
        have A := hide (And.intro ht hn)
        clear ht hn
        go_enter Try.func79, Try.ntmps79
        go_wp2
        go_ret
        obtain ⟨ht, hn⟩ := unhide A
        refine ⟨_, rfl, ?_⟩
        erw [ht, wrap_a 48 t (by omega) ht8]
        exact ⟨by omega, by omega, hn, rfl⟩
    · by_cases c3 : 256 ≤ x / 4294967296
      · obtain ⟨t, ht, ht8, hn⟩ := len_fin 5 x (x / 4294967296 / 256) (by omega) h0 (by omega) (by omega) (by omega) (.inr (by omega))
        have A := hide (And.intro ht hn)
        clear ht hn
        go_enter Try.func79, Try.ntmps79
        go_wp2
        go_ret
        obtain ⟨ht, hn⟩ := unhide A
        refine ⟨_, rfl, ?_⟩
        erw [ht, wrap_a 40 t (by omega) ht8]
        exact ⟨by omega, by omega, hn, rfl⟩
      · obtain ⟨t, ht, ht8, hn⟩ := len_fin 4 x (x / 4294967296) (by omega) h0 (by omega) (by omega) (by omega) (.inr (by omega))
        have A := hide (And.intro ht hn)
        clear ht hn
        go_enter Try.func79, Try.ntmps79
        go_wp2
        go_ret
        obtain ⟨ht, hn⟩ := unhide A
        refine ⟨_, rfl, ?_⟩
        erw [ht, wrap_a 32 t (by omega) ht8]
        exact ⟨by omega, by omega, hn, rfl⟩
  · by_cases c2 : 65536 ≤ x
    · by_cases c3 : 256 ≤ x / 65536
      · obtain ⟨t, ht, ht8, hn⟩ := len_fin 3 x (x / 65536 / 256) (by omega) h0 (by omega) (by omega) (by omega) (.inr (by omega))
        have A := hide (And.intro ht hn)
        clear ht hn
        go_enter Try.func79, Try.ntmps79
        go_wp2
        go_ret
        obtain ⟨ht, hn⟩ := unhide A
        refine ⟨_, rfl, ?_⟩
        erw [ht, wrap_a 24 t (by omega) ht8]
        exact ⟨by omega, by omega, hn, rfl⟩
      · obtain ⟨t, ht, ht8, hn⟩ := len_fin 2 x (x / 65536) (by omega) h0 (by omega) (by omega) (by omega) (.inr (by omega))
        have A := hide (And.intro ht hn)
        clear ht hn
        go_enter Try.func79, Try.ntmps79
        go_wp2
        go_ret
        obtain ⟨ht, hn⟩ := unhide A
        refine ⟨_, rfl, ?_⟩
        erw [ht, wrap_a 16 t (by omega) ht8]
        exact ⟨by omega, by omega, hn, rfl⟩
    · by_cases c3 : 256 ≤ x
      · obtain ⟨t, ht, ht8, hn⟩ := len_fin 1 x (x / 256) (by omega) h0 (by omega) (by omega) (by omega) (.inr (by omega))
        have A := hide (And.intro ht hn)
        clear ht hn
        go_enter Try.func79, Try.ntmps79
        go_wp2
        go_ret
        obtain ⟨ht, hn⟩ := unhide A
        refine ⟨_, rfl, ?_⟩
        erw [ht, wrap_a 8 t (by omega) ht8]
        exact ⟨by omega, by omega, hn, rfl⟩
      · obtain ⟨t, ht, ht8, hn⟩ := len_fin 0 x (x) (by omega) h0 (by omega) (by omega) (by omega) (.inl rfl)
        have A := hide (And.intro ht hn)
        clear ht hn
        go_enter Try.func79, Try.ntmps79
        go_wp2
        go_ret
        obtain ⟨ht, hn⟩ := unhide A
        refine ⟨_, rfl, ?_⟩
        erw [ht, wrap_b t ht8]
        exact ⟨by omega, by omega, by simpa using hn, rfl⟩
end Go.Proofs.Ytohhlidlgibieaa

/- What 'Bytes', 'noughtAhead', 'value', 'Num' and 'GetNum' do, the program's and the document's. -/
namespace Go.Proofs.Ytohhlidlgibieaa
open Go.RowKit
set_option linter.unusedVariables false

theorem ret_bool {a b : Bool} (h : a = b) : Ending.returned (.bool a) = .returned (.bool b) := by rw [h]
theorem drop_ne {l m : List Int} (k : Nat) (hl : k < l.length) (hm : k < m.length) (hne : l.getD k 0 ≠ m.getD k 0) : ¬ l = m := fun h => hne (by rw [h])
theorem take_eq {l m : List Int} (k : Nat) (hl : k < l.length) (hm : k < m.length) (h : l.take k = m.take k) (he : l.getD k 0 = m.getD k 0) : l.take (k + 1) = m.take (k + 1) := by
  rw [List.take_succ_eq_append_getElem hl, List.take_succ_eq_append_getElem hm, h]
  simp [List.getD_eq_getElem?_getD, hl, hm] at he
  rw [he]

set_option maxHeartbeats 400000 in
theorem bytes_any (a b : Option Addr) (n c m d : Nat) (l k : List Int) (w : World) (hA : BS w a n l) (hB : BS w b m k) :
    Calls Try.prog 17 #[.slice a n c, .slice b m d] w fun e w' => e = .returned (.bool (decide (l = k))) ∧ Below w.heap.size w w' := by
  obtain ⟨g1, g2, g3, g4⟩ := hA
  obtain ⟨h1, h2, h3, h4⟩ := hB
  have G1 := hide g1
  have H1 := hide h1
  have G4 := hide g4
  have H4 := hide h4
  unfold maxLen at g2 h2
  clear g1 h1 g3 h3 g4 h4
  by_cases hnm : n = m
  · subst hnm
    go_enter Try.func17, Try.ntmps17
    go_wp2
    go_loopw [5] (fun i wr => ∃ j : Nat, j ≤ n ∧ i = .int .i64 j ∧ Hid (l.take j = k.take j) ∧ Hid (Below w.heap.size w wr)) (fun i _ => n - (intOf i).toNat)
    case atStart => exact ⟨0, by omega, rfl, rfl, Below.refl _ _⟩
    case round =>
      obtain ⟨j, hj, rfl, hE, hW⟩ := hrel
      by_cases hlt : j < n
      · rcases G4.out with h0 | ⟨b1, o1, rfl, hc1⟩
        · omega
        rcases H4.out with h0 | ⟨b2, o2, rfl, hc2⟩
        · omega
        have q1 : wr.cell? ⟨b1, o1 + j, none⟩ = some (.int .u8 (l.getD j 0)) := by rw [hW.out.cell (World.block_lt_of_cell? w _ (hc1 j hlt))]; exact hc1 j hlt
        have q2 : wr.cell? ⟨b2, o2 + j, none⟩ = some (.int .u8 (k.getD j 0)) := by rw [hW.out.cell (World.block_lt_of_cell? w _ (hc2 j hlt))]; exact hc2 j hlt
        clear hc1 hc2 G4 H4
        have hE2 := fun he => hide (take_eq j (by rw [G1.out]; exact hlt) (by rw [H1.out]; exact hlt) hE.out he)
        have hN2 : ∀ he : l.getD j 0 ≠ k.getD j 0, Hid (¬ l = k) := fun he e => he (by rw [e])
        generalize l.getD j 0 = x at q1 hE2 hN2
        generalize k.getD j 0 = y at q2 hE2 hN2
        by_cases he : x = y
        · have hE3 := hE2 he
          subst he
          clear hN2 hE2
          go_wp2
          go_region
          go_wp2
          go_roundw
          case rel => exact ⟨j + 1, by omega, by go_num, hE3, hW.out.drew⟩
          case measure => simp [intOf]; omega
        · have hlk := hN2 he
          have he2 : (x != y) = true := by simpa using he
          clear hE2 hN2 he
          go_wp2
          go_region
          go_wp2
          go_ret
          exact ⟨ret_bool (by simp [hlk.out]), hW.out.drew⟩
      · have : j = n := by omega
        subst this
        have hlk : Hid (l = k) := by
          have := hE.out
          rw [List.take_of_length_le (by rw [G1.out]; exact Nat.le_refl _), List.take_of_length_le (by rw [H1.out]; exact Nat.le_refl _)] at this
          exact this
        go_wp2
        go_ret
        exact ⟨ret_bool (by simp [hlk.out]), hW.out⟩
  · have hne : ((n : Int) != (m : Int)) = true := by simp; omega
    have hlk : Hid (¬ l = k) := fun e => hnm (by rw [← G1.out, ← H1.out, e])
    go_enter Try.func17, Try.ntmps17
    go_wp2
    go_ret
    exact ⟨ret_bool (by simp [hlk.out]), Below.refl _ _⟩
end Go.Proofs.Ytohhlidlgibieaa

/- What 'noughtAhead' and 'value' do. -/
namespace Go.Proofs.Ytohhlidlgibieaa
open Go.RowKit
set_option linter.unusedVariables false

set_option maxHeartbeats 400000 in
theorem ahead_any (a : Option Addr) (n c : Nat) (l : List Int) (w : World) (hA : BS w a n l) :
    Calls Try.prog 93 #[.slice a n c] w fun e w' => e = .returned (.bool (decide (¬ nz l))) ∧ w' = w := by
  obtain ⟨g1, g2, g3, g4⟩ := hA
  unfold maxLen at g2
  by_cases hn : 0 < n
  · rcases g4 with h0 | ⟨b, o, rfl, hc⟩
    · omega
    have q := hc 0 hn
    rw [Nat.add_zero] at q
    have hz : Hid (decide (¬ nz l) = (l.getD 0 0 == 0)) := by
      rcases l with _ | ⟨x, r⟩
      · simp at g1; omega
      · simp [nz]; rfl
    generalize l.getD 0 0 = x at q hz
    clear hc g1 g3
    go_enter Try.func93, Try.ntmps93
    go_wp2
    go_ret
    exact ⟨ret_bool hz.out.symm, rfl⟩
  · have hn0 : n = 0 := by omega
    subst hn0
    obtain rfl : l = [] := List.eq_nil_of_length_eq_zero g1
    clear g3 g4 g1
    go_enter Try.func93, Try.ntmps93
    go_wp2
    go_ret
    exact ⟨ret_bool (by decide), rfl⟩

theorem val_take (l : List Int) (k : Nat) (h : k < l.length) : val (l.take (k + 1)) = val (l.take k) * 256 + l.getD k 0 := by
  rw [List.take_succ_eq_append_getElem h, val_snoc]
  simp [List.getD_eq_getElem?_getD, h]
theorem pow7 (k : Nat) (h : k ≤ 7) : (256 : Int) ^ k ≤ 72057594037927936 := by
  have h8 : k = 0 ∨ k = 1 ∨ k = 2 ∨ k = 3 ∨ k = 4 ∨ k = 5 ∨ k = 6 ∨ k = 7 := by omega
  rcases h8 with rfl | rfl | rfl | rfl | rfl | rfl | rfl | rfl <;> decide

theorem or64 (x y : Int) (hx0 : 0 ≤ x) (hx1 : x < 72057594037927936) (hy0 : 0 ≤ y) (hy1 : y < 256) : bits .or .u64 (x * 256) y = x * 256 + y := by
  obtain ⟨a, rfl⟩ := Int.eq_ofNat_of_zero_le hx0
  obtain ⟨b, rfl⟩ := Int.eq_ofNat_of_zero_le hy0
  have e : ((a : Int) * 256) = ((a * 256 : Nat) : Int) := by omega
  have h1 : (BitVec.ofInt 64 ((a * 256 : Nat) : Int)).toNat = a * 256 := by rw [BitVec.ofInt_natCast, BitVec.toNat_ofNat]; exact Nat.mod_eq_of_lt (by omega)
  have h2 : (BitVec.ofInt 64 (b : Int)).toNat = b := by rw [BitVec.ofInt_natCast, BitVec.toNat_ofNat]; exact Nat.mod_eq_of_lt (by omega)
  have h3 : a * 256 ||| b = a * 256 + b := by
    have := Nat.shiftLeft_add_eq_or_of_lt (i := 8) (b := b) (by omega) a
    rw [Nat.shiftLeft_eq] at this
    exact this.symm
  rw [e]
  show IntKind.u64.wrap ((BitVec.ofInt 64 ((a * 256 : Nat) : Int) ||| BitVec.ofInt 64 (b : Int)).toNat : Int) = _
  rw [BitVec.toNat_or, h1, h2, h3, IntKind.wrap_u64]
  omega

set_option maxHeartbeats 400000 in
theorem value_any (a : Option Addr) (n c : Nat) (l : List Int) (w : World) (hA : BS w a n l) (h8 : n ≤ 8) :
    Calls Try.prog 94 #[.slice a n c] w fun e w' => e = .returned (.int .u64 (val l)) ∧ w' = w := by
  obtain ⟨g1, g2, g3, g4⟩ := hA
  have G1 := hide g1
  have G3 := hide g3
  have G4 := hide g4
  clear g1 g2 g3 g4
  go_enter Try.func94, Try.ntmps94
  go_wp2
  go_loop [3, 8] (fun r i => ∃ (k : Nat) (x : Int), k ≤ n ∧ i = .int .i64 k ∧ r = .int .u64 x ∧ Hid (x = val (l.take k)) ∧ 0 ≤ x ∧ x < 18446744073709551616) (fun _ i => n - (intOf i).toNat)
  case atStart => exact ⟨0, 0, by omega, rfl, rfl, rfl, by omega, by omega⟩
  case round =>
    obtain ⟨k, x, hk, rfl, rfl, hx, hx0, hx1⟩ := hrel
    by_cases hlt : k < n
    · rcases G4.out with h0 | ⟨b, off, rfl, hc⟩
      · omega
      have q := hc k hlt
      have hb0 := (getD_byte G3.out k).1
      have hb1 := (getD_byte G3.out k).2
      have hv := hide (val_take l k (by rw [G1.out]; exact hlt))
      have hx7 : x < 72057594037927936 := by
        have h1 := (val_bd (l.take k) (By.take G3.out k)).2
        rw [← hx.out, List.length_take, G1.out] at h1
        have h2 := pow7 (min k n) (by omega)
        omega
      clear hc
      generalize l.getD k 0 = y at q hb0 hb1 hv
      go_wp2
      go_round
      case rel => exact ⟨k + 1, x * 256 + y, by omega, by go_num, by rw [or64 x y hx0 hx7 hb0 hb1], by rw [hx.out]; exact hv.out.symm, by omega, by omega⟩
      case measure => simp [intOf]; omega
    · have hkl : k = n := by omega
      subst hkl
      have hE : Hid (x = val l) := by have h2 := hx.out; rw [List.take_of_length_le (by rw [G1.out]; exact Nat.le_refl _)] at h2; exact h2
      go_wp2
      go_ret
      exact ⟨ret_int hE.out, rfl⟩
end Go.Proofs.Ytohhlidlgibieaa

/- What 'Num' does, the program's and the document's: the number's bytes, in new memory. -/
namespace Go.Proofs.Ytohhlidlgibieaa
open Go.RowKit
set_option linter.unusedVariables false

theorem be_step (x : Int) (k : Nat) (h0 : 0 ≤ x) : be (k + 1) x = x / 2 ^ (8 * k) % 256 :: be k x := by
  have : (2 : Int) ^ (8 * k) = 256 ^ k := by rw [Int.pow_mul]; rfl
  rw [this]; rfl
theorem make_cap (c : Nat) (hc : c ≤ 1000000) : ∃ C : Array Value, C.size = c ∧ ∀ w : World, (Instr.makeSlice 37 (.int .i64 0) (.int .i64 (c : Int))).run Try.prog w = .ok (.slice (some ⟨w.heap.size, 0, none⟩) 0 c) (w.alloc (.cells C 5)) := by
  obtain ⟨i0, hi, hz0, hz1, hz2⟩ := info_parts Try.infoU8
  refine ⟨madeCells (Value.int .u8 0).cells (c * i0.size), ?_, fun w => ?_⟩
  · rw [size_madeCells, hz1]; simp
  · have h := run_make (P := Try.prog) w 37 5 i0 (.int .u8 0) Try.underlying37 hi hz0 .i64 .i64 0 (c : Int) (by omega) (by omega) (by rw [hz2]; omega) (by omega)
    simpa using h

set_option maxHeartbeats 1000000 in
set_option maxRecDepth 100000 in
theorem num_any (x : Int) (w : World) (h0 : 0 ≤ x) (h1 : x < 18446744073709551616) :
    Calls Try.prog 53 #[.int .u64 x] w fun e w' => ∃ v, e = .returned v ∧ Own w.heap.size w' v (num x) ∧ Below w.heap.size w w' := by
  have hnb := nb_le x
  obtain ⟨n, hn⟩ : ∃ n, n = nb x := ⟨_, rfl⟩
  rw [← hn] at hnb
  obtain ⟨C, hC, mk⟩ := make_cap (1 + n) (by omega)
  have mk : ∀ w : World, (Instr.makeSlice 37 (.int .i64 0) (.int .i64 (1 + (n : Int)))).run Try.prog w = .ok (.slice (some ⟨w.heap.size, 0, none⟩) 0 (1 + n)) (w.alloc (.cells C 5)) := fun w => by rw [← mk w]; congr 2
  have hNum : Hid (num x = (n : Int) :: be n x) := by rw [hn]; rfl
  have HN := hide hn
  go_enter Try.func53, Try.ntmps53
  go_wp2_with fail
  refine (len64_any x w h0 h1).mono ?_
  rintro e w1 ⟨L, rfl, hL0, hL1, hL, rfl⟩
  rw [← hn] at hL
  clear hn
  have hL2 : (L + 8 - 1).tdiv 8 = (n : Int) := by rw [Int.tdiv_eq_ediv_of_nonneg (by omega), ← hL]; congr 1; omega
  have hown0 := hide ((Own.madeN w1 w1.heap.size _ rfl (Nat.le_refl _) C (1 + n) hC (by unfold maxLen; omega)).alloc (.cells #[.int .u8 (n : Int)] 5))
  have hbs0 := hide (BS.one (w1.alloc (.cells C 5)) (w1.heap.size + 1) (by simp) (n : Int) (by omega) (by omega))
  go_wp2_with (at_builtin; refine Stop.at ?_)
  unfold Stop
  refine append_bytes rfl _ _ rfl w1.heap.size _ _ [(n : Int)] rfl hown0.out _ _ _ rfl (by intro h; cases h) hbs0.out (by simp) (by simp; omega) ?_
  intro v' w2 hown hgrow hbel
  have Hown := hide hown
  have Hbel := hide (hbel w1 (((Below.refl _ w1).alloc (Nat.le_refl _) _).alloc (by simp) _))
  clear hown hgrow hbel hown0 hbs0
  go_wp2
  go_loopw [4, 5] (fun v i wr => ∃ (m : Int) (j : Nat) (acc : List Int), i = .int .i64 m ∧ -1 ≤ m ∧ m < 8 ∧ Hid (m + 1 = j) ∧ Hid (acc ++ be j x = num x) ∧ Hid (Own w1.heap.size wr v acc) ∧ Hid (Below w1.heap.size w1 wr)) (fun _ i _ => (intOf i + 1).toNat)
  case atStart => exact ⟨(n : Int) - 1, n, [(n : Int)], rfl, by omega, by omega, by show (n : Int) - 1 + 1 = n; omega, hNum.out.symm, Hown.out, Hbel.out⟩
  case round =>
    obtain ⟨m, j, acc, rfl, hm0, hm8, hmj, hacc, hown, hbel⟩ := hrel
    by_cases hm : 0 ≤ m
    · obtain ⟨k, rfl⟩ := Int.eq_ofNat_of_zero_le hm
      have hjk : j = k + 1 := by have := hmj.out; omega
      subst hjk
      have hstep := hide (be_step x k h0)
      have hsz := hbel.out.size
      go_wp2_with (at_builtin; refine Stop.at ?_)
      unfold Stop
      have hl : acc.length + (k + 1) ≤ 9 := by have h := congrArg List.length hacc.out; rw [List.length_append, be_len, num_len, ← HN.out] at h; omega
      refine append_bytes rfl _ _ rfl w1.heap.size _ _ [x / 2 ^ (8 * k) % 256] rfl (hown.out.alloc _) _ _ _ rfl (by intro h; cases h) (BS.one wr _ rfl _ (by omega) (by omega)) (by simp; omega) (by simp; omega) ?_
      intro v2 w2 hown2 hgrow hbel2
      have Hown2 := hide hown2
      have Hbel2 := hide (hbel2 w1 (hbel.out.alloc (by omega) _))
      have hacc2 : Hid ((acc ++ [x / 2 ^ (8 * k) % 256]) ++ be k x = num x) := by rw [← hacc.out, hstep.out, List.append_assoc]; rfl
      clear hown2 hgrow hbel2 hown hbel hacc hstep
      go_wp2
      go_roundw
      case rel => exact ⟨(k : Int) - 1, k, _, rfl, by omega, by omega, by show (k : Int) - 1 + 1 = k; omega, hacc2, Hown2, Hbel2⟩
      case measure => simp [intOf]
    · have hj : j = 0 := by have := hmj.out; omega
      subst hj
      have hE : Hid (acc = num x) := by have := hacc.out; rw [show be 0 x = [] from rfl, List.append_nil] at this; exact this
      have hown2 : Hid (Own w1.heap.size wr u4 (num x)) := by rw [← hE.out]; exact hown
      clear hown
      go_wp2
      go_ret
      exact ⟨_, rfl, hown2.out, hbel.out⟩

theorem div_s (x : Int) (j : Nat) : x / 256 ^ (j + 1) = x / 256 ^ j / 256 := by rw [pow_s, Int.ediv_ediv_of_nonneg (Int.le_of_lt (pow_pos' j))]
theorem be_cons (x : Int) (j : Nat) : be (j + 1) x = x / 256 ^ j % 256 :: be j x := rfl

set_option maxHeartbeats 1000000 in
set_option maxRecDepth 100000 in
theorem refNum_any (x : Int) (w : World) (h0 : 0 ≤ x) (h1 : x < 18446744073709551616) :
    Calls Try.prog 63 #[.int .u64 x] w fun e w' => ∃ v, e = .returned v ∧ Own w.heap.size w' v (num x) ∧ Below w.heap.size w w' := by
  go_enter Try.func63, Try.ntmps63
  go_wp2
  go_loopw [0, 3] (fun u v wr => ∃ (j : Nat) (y : Int) (p : Option Addr) (cap : Nat), u = .int .u64 y ∧ 0 ≤ y ∧ y < 18446744073709551616 ∧ Hid (y = x / 256 ^ j) ∧ v = .slice p j cap ∧ Hid (p = none → cap = 0) ∧ Hid (BS wr p j (be j x)) ∧ Hid (Below w.heap.size w wr) ∧ Hid (j = 0 ∨ (256 : Int) ^ (j - 1) ≤ x) ∧ j ≤ 8) (fun u _ _ => (intOf u).toNat)
  case atStart => exact ⟨0, x, _, 0, rfl, h0, h1, by show x = x / 1; omega, rfl, fun _ => rfl, BS.nil _ _, (Below.refl _ _).alloc (Nat.le_refl _) _, .inl rfl, by omega⟩
  case round =>
    obtain ⟨j, y, p, cap, rfl, hy0, hy1, hy, rfl, hp, hbs, hbel, hlo, hj8⟩ := hrel
    have hsz := hbel.out.size
    by_cases hpos : 0 < y
    · have hxj : Hid ((256 : Int) ^ j ≤ x) := by
        have := hy.out
        have h1 : 1 ≤ x / 256 ^ j := by omega
        have := (Int.le_ediv_iff_mul_le (pow_pos' j)).1 h1
        show _ ≤ _
        omega
      have hj7 : j < 8 := by
        have h2 := hxj.out
        rcases Nat.lt_or_ge j 8 with h | h
        · exact h
        · have : j = 8 := by omega
          subst this
          omega
      have hcons := hide (be_cons x j)
      go_wp2_with (at_builtin; refine Stop.at ?_)
      unfold Stop
      refine append_bytes rfl _ _ rfl w.heap.size _ _ (be j x) rfl (Own.one wr w.heap.size _ rfl hsz (y % 256)) p j cap rfl hp.out (hbs.out.alloc _) (by rw [be_len]; simp; omega) (by simp; omega) ?_
      intro v2 w2 hown2 hgrow hbel2
      have Hbel2 := hide (hbel2 w (hbel.out.alloc (by omega) _))
      have hE : [y % 256] ++ be j x = be (j + 1) x := by rw [hcons.out, ← hy.out]; rfl
      rw [hE] at hown2
      obtain ⟨p2, cap2, rfl, hbs2, hcp2⟩ := Own.open hown2 (be_by _ _)
      rw [be_len] at hbs2 hcp2
      rw [be_len]
      have Hbs2 := hide hbs2
      have Hcp2 := hide hcp2.2.2
      clear hown2 hgrow hbel2 hbel hbs hbs2 hcp2 hE
      have hdiv : y / 256 = x / 256 ^ (j + 1) := by rw [div_s, ← hy.out]
      have Hdiv := hide hdiv
      clear hdiv
      go_wp2
      go_roundw
      case rel => exact ⟨j + 1, y / 256, p2, cap2, rfl, by omega, by omega, Hdiv, rfl, Hcp2, Hbs2, Hbel2, .inr hxj.out, by omega⟩
      case measure => simp [intOf]; omega
    · have hy00 : y = 0 := by omega
      subst hy00
      have hnb : Hid (nb x = j) := by
        refine nb_is x j h0 hj8 ?_ hlo.out
        have h2 := hy.out
        have h3 : x / 256 ^ j < 1 := by omega
        have := (Int.ediv_lt_iff_lt_mul (pow_pos' j)).1 h3
        omega
      have hE : Hid ([(j : Int)] ++ be j x = num x) := by unfold num; rw [hnb.out]; rfl
      go_wp2_with (at_builtin; refine Stop.at ?_)
      unfold Stop
      refine append_bytes rfl _ _ rfl w.heap.size _ _ (be j x) rfl (Own.one wr w.heap.size _ rfl hsz (j : Int)) p j cap rfl hp.out (hbs.out.alloc _) (by rw [be_len]; simp; omega) (by simp; omega) ?_
      intro v2 w2 hown2 hgrow hbel2
      have Hbel2 := hide (hbel2 w (hbel.out.alloc (by omega) _))
      rw [hE.out] at hown2
      have Hown2 := hide hown2
      clear hown2 hgrow hbel2
      go_wp2
      go_ret
      exact ⟨_, rfl, Hown2.out, Hbel2.out⟩
end Go.Proofs.Ytohhlidlgibieaa

/- What 'GetNum' does, the program's and the document's. -/
namespace Go.Proofs.Ytohhlidlgibieaa
open Go.RowKit
set_option linter.unusedVariables false

theorem BS.cell0 {w : World} {a : Option Addr} {n : Nat} {x : Int} {l : List Int} (h : BS w a n (x :: l)) : ∃ b o, a = some ⟨b, o, none⟩ ∧ w.cell? ⟨b, o, none⟩ = some (.int .u8 x) ∧ 0 ≤ x ∧ x < 256 ∧ n = l.length + 1 := by
  obtain ⟨g1, g2, g3, g4⟩ := h
  rcases g4 with h0 | ⟨b, o, rfl, hc⟩
  · subst h0; simp at g1
  · have q := hc 0 (by rw [← g1]; simp)
    exact ⟨b, o, rfl, by simpa using q, (By.head g3).1, (By.head g3).2, by rw [← g1]; simp⟩

theorem BS.at {w : World} {b o n : Nat} {l : List Int} (h : BS w (some ⟨b, o, none⟩) n l) (i k : Nat) (hk : i + k ≤ n) : BS w (some ⟨b, o + i, none⟩) k ((l.drop i).take k) := by
  obtain ⟨g1, g2, g3, g4⟩ := h
  refine ⟨by rw [List.length_take, List.length_drop]; omega, by omega, By.take (By.drop g3 i) k, ?_⟩
  rcases Nat.eq_zero_or_pos k with h0 | hp
  · exact .inl h0
  · rcases g4 with h0 | ⟨b', o', hh, hc⟩
    · omega
    · cases hh
      refine .inr ⟨_, _, rfl, fun t ht => ?_⟩
      have h4 : ((l.drop i).take k).getD t 0 = l.getD (i + t) 0 := by simp [List.getD_eq_getElem?_getD, ht]
      rw [h4, Nat.add_assoc]
      exact hc (i + t) (by omega)

set_option maxHeartbeats 1000000 in
set_option maxRecDepth 100000 in
theorem getNum_any (a : Option Addr) (n c : Nat) (l : List Int) (w : World) (hA : BS w a n l) (hC : CP a n c) :
    Calls Try.prog 82 #[.slice a n c] w fun e w' => ((getNum l = none ∧ e = .returned (.tuple #[.int .u64 0, .int .i64 0, .int .i64 2])) ∨ ∃ (x : Int) (m : Nat), getNum l = some (x, m) ∧ e = .returned (.tuple #[.int .u64 x, .int .i64 (m : Int), .int .i64 0])) ∧ w' = w := by
  rcases l with _ | ⟨y, r⟩
  · have hn : n = 0 := by have := hA.1; simpa using this.symm
    subst hn
    go_enter Try.func82, Try.ntmps82
    go_wp2
    go_ret3
    exact ⟨.inl ⟨rfl, rfl⟩, rfl⟩
  · have HA := hide hA
    obtain ⟨b, o, rfl, q, hy0, hy1, hn⟩ := hA.cell0
    have hn0 : ((n : Int) == 0) = false := by simp; omega
    have hmax := hA.2.1
    unfold maxLen at hmax
    have hGN := hide (getNum_cons y r)
    obtain ⟨k, rfl⟩ := Int.eq_ofNat_of_zero_le hy0
    have hrl : r.length = n - 1 := by omega
    have Hrl := hide hrl
    have hnp : 0 < n := by omega
    clear hA hn hrl
    by_cases h8 : 8 < k
    · have h8' : (8 : Int) < k := by omega
      go_enter Try.func82, Try.ntmps82
      go_wp2
      go_ret3
      exact ⟨.inl ⟨by rw [hGN.out, if_pos (.inl h8')], rfl⟩, rfl⟩
    · by_cases hlen : n < 1 + k
      · have hlen' : (n : Int) < 1 + k := by omega
        go_enter Try.func82, Try.ntmps82
        go_wp2
        go_ret3
        exact ⟨.inl ⟨by rw [hGN.out, if_pos (.inr (.inl (by have := Hrl.out; simp; omega)))], rfl⟩, rfl⟩
      · have hlen' : ¬ (n : Int) < 1 + k := by omega
        have hcn := hC.1
        have hcm := hC.2.1
        unfold maxLen at hcm
        by_cases hc1 : c = 1
        · subst hc1
          have hn1 : n = 1 := by omega
          have hk0 : k = 0 := by omega
          subst hn1 hk0
          go_enter Try.func82, Try.ntmps82
          go_wp2_with fail
          refine (ahead_any _ 0 _ [] w (BS.nil _ _)).mono ?_
          rintro e w' ⟨rfl, rfl⟩
          go_wp2_with fail
          refine (value_any _ 0 _ [] w' (BS.nil _ _) (by omega)).mono ?_
          rintro e w' ⟨rfl, rfl⟩
          go_wp2
          go_ret3
          exact ⟨.inr ⟨0, 1, by have := List.eq_nil_of_length_eq_zero Hrl.out; subst this; decide, rfl⟩, rfl⟩
        · have hbs := hide (HA.out.at 1 k (by omega))
          have hdr : Hid ((((k : Int) :: r).drop 1).take k = r.take k) := rfl
          have hn8 : k ≤ 8 := by omega
          by_cases hz : nz (r.take k)
          · have hres : Hid (getNum ((k : Int) :: r) = some (val (r.take k), 1 + k)) := by
              refine hide ?_
              rw [hGN.out, if_neg]
              · simp; omega
              · rintro (h | h | h)
                · omega
                · have := Hrl.out; simp at h; omega
                · exact h (by simpa using hz)
            have hzd : (decide (¬ nz (r.take k))) = false := by simp [hz]
            have Hzd := hide hzd
            clear hGN hzd hz
            go_enter Try.func82, Try.ntmps82
            go_wp2_with fail
            refine (ahead_any _ _ _ (r.take k) w hbs.out).mono ?_
            rintro e w' ⟨rfl, rfl⟩
            rw [Hzd.out]
            go_wp2_with fail
            refine (value_any _ _ _ (r.take k) w' hbs.out hn8).mono ?_
            rintro e w' ⟨rfl, rfl⟩
            go_wp2
            go_ret3
            exact ⟨.inr ⟨_, _, hres.out, by simp⟩, rfl⟩
          · have hres : Hid (getNum ((k : Int) :: r) = none) := by
              refine hide ?_
              rw [hGN.out, if_pos]
              exact .inr (.inr (by simpa using hz))
            have hzd : (decide (¬ nz (r.take k))) = true := by simp [hz]
            have Hzd := hide hzd
            clear hGN hzd hz
            go_enter Try.func82, Try.ntmps82
            go_wp2_with fail
            refine (ahead_any _ _ _ (r.take k) w hbs.out).mono ?_
            rintro e w' ⟨rfl, rfl⟩
            rw [Hzd.out]
            go_wp2
            go_ret3
            exact ⟨.inl ⟨hres.out, rfl⟩, rfl⟩
end Go.Proofs.Ytohhlidlgibieaa

/- What the document's 'GetNum' does. -/
namespace Go.Proofs.Ytohhlidlgibieaa
open Go.RowKit
set_option linter.unusedVariables false

theorem bytes_as (a b : Option Addr) (n c m d : Nat) (l k : List Int) (w : World) (r : Bool) (hr : decide (l = k) = r) (hA : BS w a n l) (hB : BS w b m k) :
    Calls Try.prog 17 #[.slice a n c, .slice b m d] w fun e w' => e = .returned (.bool r) ∧ Below w.heap.size w w' := by
  rw [← hr]; exact bytes_any a b n c m d l k w hA hB

theorem num_is (k : Nat) (r : List Int) (hk : k ≤ r.length) (h8 : k ≤ 8) (hr : By r) : decide (num (val (r.take k)) = ((k : Int) :: r).take (k + 1)) = decide (nz (r.take k)) := by
  have hl : (r.take k).length = k := by rw [List.length_take]; omega
  have := num_val_iff (r.take k) (hr.take k) (by omega)
  rw [hl] at this
  simp only [List.take_succ_cons]
  exact decide_eq_decide.2 this

set_option maxHeartbeats 4000000 in
set_option maxRecDepth 100000 in
theorem refGetNum_any (a : Option Addr) (n c : Nat) (l : List Int) (w : World) (hA : BS w a n l) (hC : CP a n c) :
    Calls Try.prog 65 #[.slice a n c] w fun e w' => ((getNum l = none ∧ e = .returned (.tuple #[.int .u64 0, .int .i64 0])) ∨ ∃ (x : Int) (m : Nat), getNum l = some (x, m) ∧ e = .returned (.tuple #[.int .u64 x, .int .i64 (m : Int)])) ∧ Below w.heap.size w w' := by
  rcases l with _ | ⟨y, r⟩
  · have hn : n = 0 := by have := hA.1; simpa using this.symm
    subst hn
    go_enter Try.func65, Try.ntmps65
    go_wp2
    go_ret2
    exact ⟨.inl ⟨rfl, rfl⟩, Below.refl _ _⟩
  · have HA := hide hA
    have HB : Hid (By r) := By.tail hA.2.2.1
    obtain ⟨b, o, rfl, q, hy0, hy1, hn⟩ := hA.cell0
    have hn0 : ((n : Int) == 0) = false := by simp; omega
    have hmax := hA.2.1
    unfold maxLen at hmax
    have hGN := hide (getNum_cons y r)
    obtain ⟨k, rfl⟩ := Int.eq_ofNat_of_zero_le hy0
    have hrl : r.length = n - 1 := by omega
    have Hrl := hide hrl
    have hnp : 0 < n := by omega
    clear hA hn hrl
    by_cases h8 : 8 < k
    · have h8' : (8 : Int) < k := by omega
      go_enter Try.func65, Try.ntmps65
      go_wp2
      go_ret2
      exact ⟨.inl ⟨by rw [hGN.out, if_pos (.inl h8')], rfl⟩, Below.refl _ _⟩
    · by_cases hlen : n < 1 + k
      · have hlen' : (n : Int) < k + 1 := by omega
        have h8' : decide ((8 : Int) < k) = false := by simp; omega
        go_enter Try.func65, Try.ntmps65
        go_wp2
        go_ret2
        exact ⟨.inl ⟨by rw [hGN.out, if_pos (.inr (.inl (by have := Hrl.out; simp; omega)))], rfl⟩, Below.refl _ _⟩
      · have hlen' : ¬ (n : Int) < k + 1 := by omega
        have h8' : decide ((8 : Int) < k) = false := by simp; omega
        have hcn := hC.1
        have hcm := hC.2.1
        unfold maxLen at hcm
        have hHead := hide (HA.out.head (k + 1) (by omega))
        go_enter Try.func65, Try.ntmps65
        go_wp2
        go_loop [5, 6] (fun u i => ∃ (j : Nat) (x : Int), 1 ≤ j ∧ j ≤ k + 1 ∧ i = .int .i64 j ∧ u = .int .u64 x ∧ 0 ≤ x ∧ x < 18446744073709551616 ∧ Hid (x = val (r.take (j - 1)))) (fun _ i => k + 1 - (intOf i).toNat)
        case atStart => exact ⟨1, 0, by omega, by omega, rfl, rfl, by omega, by omega, rfl⟩
        case round =>
          obtain ⟨j, x, hj1, hjk, rfl, rfl, hx0, hx1, hx⟩ := hrel
          by_cases hlt : j < k + 1
          · obtain ⟨i, rfl⟩ : ∃ i, j = i + 1 := ⟨j - 1, by omega⟩
            have hx : Hid (x = val (r.take i)) := hx
            have q2 : w.cell? ⟨b, o + (i + 1), none⟩ = some (.int .u8 (r.getD i 0)) := by
              rcases HA.out.2.2.2 with h0 | ⟨b', o', hh, hc⟩
              · omega
              · cases hh
                exact hc (i + 1) (by omega)
            have hb0 := (getD_byte HB.out i).1
            have hb1 := (getD_byte HB.out i).2
            have hv := hide (val_take r i (by rw [Hrl.out]; omega))
            have hx7 : x < 72057594037927936 := by
              have h1 := (val_bd (r.take i) (By.take HB.out i)).2
              rw [← hx.out, List.length_take, Hrl.out] at h1
              have h2 := pow7 (min i (n - 1)) (by omega)
              omega
            generalize r.getD i 0 = y at q2 hb0 hb1 hv
            have hltI : (i : Int) + 1 < (n : Int) := by omega
            go_wp2
            go_round
            case rel => exact ⟨i + 1 + 1, x * 256 + y, by omega, by omega, by go_num, rfl, by omega, by omega, by show _ = val (r.take (i + 1)); rw [hv.out, hx.out]⟩
            case measure => simp [intOf]; omega
          · have hjk2 : j = k + 1 := by omega
            subst hjk2
            have hx : Hid (x = val (r.take k)) := hx
            have hnis := hide (num_is k r (by rw [Hrl.out]; omega) (by omega) HB.out)
            rw [← hx.out] at hnis
            have hci : (k : Int) + 1 ≤ (c : Int) := by omega
            have hc0 : (0 : Int) ≤ (k : Int) + 1 := by omega
            by_cases hz : nz (r.take k)
            · have hres : Hid (getNum ((k : Int) :: r) = some (x, k + 1)) := by
                refine hide ?_
                rw [hGN.out, if_neg]
                · simp [hx.out]
                · rintro (h | h | h)
                  · omega
                  · have := Hrl.out; simp at h; omega
                  · exact h (by simpa using hz)
              have hd : decide (num x = ((k : Int) :: r).take (k + 1)) = true := by rw [hnis.out]; simpa using hz
              have Hd := hide hd
              clear hd hz hGN hnis
              go_wp2_with fail
              go_region_held3 (fun _ => True) (trivial) (first
                | (go_at_call 63; refine (refNum_any x _ hx0 hx1).mono ?_; rintro e w1 ⟨v, rfl, hown, hb⟩; obtain ⟨p, cap, rfl, hbs, hcp⟩ := hown.open (num_by x); have Hbs := hide hbs; have Hb := hide hb; clear hown hbs hb)
                | (go_at_call 17; refine (bytes_as _ _ _ _ _ _ (num x) (((k : Int) :: r).take (k + 1)) _ true Hd.out (by exact Hbs.out) (by exact hHead.out.drew.below Hb.out)).mono ?_; rintro e w2 ⟨rfl, hb2⟩))
              go_wp2
              go_ret2
              have z := Hb.out.size
              exact ⟨.inr ⟨_, _, hres.out, by simp⟩, ((Below.refl _ w).drew.trans Hb.out).trans (hb2.mono z)⟩
            · have hres : Hid (getNum ((k : Int) :: r) = none) := by
                refine hide ?_
                rw [hGN.out, if_pos]
                exact .inr (.inr (by simpa using hz))
              have hd : decide (num x = ((k : Int) :: r).take (k + 1)) = false := by rw [hnis.out]; simpa using hz
              have Hd := hide hd
              clear hd hz hGN hnis
              go_wp2_with fail
              go_region_held3 (fun _ => True) (trivial) (first
                | (go_at_call 63; refine (refNum_any x _ hx0 hx1).mono ?_; rintro e w1 ⟨v, rfl, hown, hb⟩; obtain ⟨p, cap, rfl, hbs, hcp⟩ := hown.open (num_by x); have Hbs := hide hbs; have Hb := hide hb; clear hown hbs hb)
                | (go_at_call 17; refine (bytes_as _ _ _ _ _ _ (num x) (((k : Int) :: r).take (k + 1)) _ false Hd.out (by exact Hbs.out) (by exact hHead.out.drew.below Hb.out)).mono ?_; rintro e w2 ⟨rfl, hb2⟩))
              go_wp2
              go_ret2
              have z := Hb.out.size
              exact ⟨.inl ⟨hres.out, rfl⟩, ((Below.refl _ w).drew.trans Hb.out).trans (hb2.mono z)⟩
end Go.Proofs.Ytohhlidlgibieaa

/- What 'Text', bytes.Clone and 'GetText' do, the program's and the document's. -/
namespace Go.Proofs.Ytohhlidlgibieaa
open Go.RowKit
set_option linter.unusedVariables false

theorem CP.cut {a : Option Addr} {n c : Nat} (h : CP a n c) (i k : Nat) (hk : k ≤ n) (hi : i ≤ k) : CP (slA a c i) (k - i) (c - i) := by
  obtain ⟨h1, h2, h3⟩ := h
  refine ⟨by omega, by omega, fun hn => ?_⟩
  unfold slA at hn
  split at hn
  · have := h3 hn; omega
  · rcases a with _ | x
    · have := h3 rfl; omega
    · simp at hn
theorem CP.head {a : Option Addr} {n c : Nat} (h : CP a n c) (k : Nat) (hk : k ≤ n) : CP a k c := ⟨Nat.le_trans hk h.1, h.2.1, h.2.2⟩

theorem q_nil (w : World) (a : Option Addr) (n c : Nat) : (binOp .eql 37 (.slice a n c) (.slice none 0 0)).run Try.prog w = .ok (.bool a.isNone) w := Lib.run_eql_slice_nil w _ _ a n c 0 0 Try.underlying37

set_option maxHeartbeats 1000000 in
set_option maxRecDepth 100000 in
theorem clone_any (a : Option Addr) (n c : Nat) (l : List Int) (w : World) (hA : BS w a n l) (hp : a = none → c = 0) (hbig : n ≤ 1000000) :
    Calls Try.prog 95 #[.slice a n c] w fun e w' => ∃ v, e = .returned v ∧ Own w.heap.size w' v l ∧ Below w.heap.size w w' := by
  have hl := hide hA.1
  have qn := q_nil
  rcases a with _ | x
  · have hc := hp rfl
    have hn0 : n = 0 := by
      rcases hA.2.2.2 with h0 | ⟨b, o, hh, _⟩
      · exact h0
      · cases hh
    subst hc hn0
    obtain rfl := List.eq_nil_of_length_eq_zero hl.out
    go_enter Try.func95, Try.ntmps95
    go_wp2
    go_ret
    exact ⟨_, rfl, ⟨rfl, .inl ⟨rfl, rfl⟩⟩, Below.refl _ _⟩
  · have HA := hide hA
    clear hA
    go_enter Try.func95, Try.ntmps95
    go_wp2_with (at_builtin; refine Stop.at ?_)
    unfold Stop
    refine append_bytes rfl _ _ rfl w.heap.size _ _ l rfl (Own.made w w.heap.size _ rfl (Nat.le_refl _)) _ n c rfl hp (HA.out.alloc _) (by rw [hl.out]; simp; omega) (by simp) ?_
    intro v w1 hown hgrow hbel
    have Hown := hide hown
    have Hbel := hide (hbel w ((Below.refl _ w).alloc (Nat.le_refl _) _))
    clear hown hgrow hbel
    go_wp2
    go_ret
    exact ⟨_, rfl, Hown.out, Hbel.out⟩

set_option maxHeartbeats 1000000 in
set_option maxRecDepth 100000 in
theorem text_any (a : Option Addr) (n c : Nat) (l : List Int) (w : World) (hA : BS w a n l) (hp : a = none → c = 0) (hbig : n ≤ 1000000) :
    Calls Try.prog 54 #[.slice a n c] w fun e w' => ∃ v, e = .returned v ∧ Own w.heap.size w' v (text l) ∧ Below w.heap.size w w' := by
  have hl := hide hA.1
  have HA := hide hA
  clear hA
  have hnb := num_len (n : Int)
  have hnb8 := nb_le (n : Int)
  go_enter Try.func54, Try.ntmps54
  go_wp2_with fail
  refine (num_any (n : Int) w (by omega) (by omega)).mono ?_
  rintro e w1 ⟨v, rfl, hown, hb⟩
  have Hown := hide hown
  have Hb := hide hb
  have hsz := hb.size
  clear hown hb
  go_wp2_with (at_builtin; refine Stop.at ?_)
  unfold Stop
  refine append_bytes rfl _ _ rfl w.heap.size _ _ l rfl Hown.out a n c rfl hp (HA.out.below Hb.out) (by rw [hl.out, hnb]; omega) hsz ?_
  intro v2 w2 hown2 hgrow hbel
  have Hown2 := hide hown2
  have Hbel := hide (hbel w Hb.out)
  clear hown2 hgrow hbel
  go_wp2
  go_ret
  refine ⟨_, rfl, ?_, Hbel.out⟩
  have := Hown2.out
  unfold text
  rw [hl.out]
  exact this

set_option maxHeartbeats 1000000 in
set_option maxRecDepth 100000 in
theorem refText_any (a : Option Addr) (n c : Nat) (l : List Int) (w : World) (hA : BS w a n l) (hp : a = none → c = 0) (hbig : n ≤ 1000000) :
    Calls Try.prog 64 #[.slice a n c] w fun e w' => ∃ v, e = .returned v ∧ Own w.heap.size w' v (text l) ∧ Below w.heap.size w w' := by
  have hl := hide hA.1
  have HA := hide hA
  clear hA
  have hnb := num_len (n : Int)
  have hnb8 := nb_le (n : Int)
  go_enter Try.func64, Try.ntmps64
  go_wp2_with fail
  refine (refNum_any (n : Int) w (by omega) (by omega)).mono ?_
  rintro e w1 ⟨v, rfl, hown, hb⟩
  have Hown := hide hown
  have Hb := hide hb
  have hsz := hb.size
  clear hown hb
  go_wp2_with (at_builtin; refine Stop.at ?_)
  unfold Stop
  refine append_bytes rfl _ _ rfl w.heap.size _ _ l rfl Hown.out a n c rfl hp (HA.out.below Hb.out) (by rw [hl.out, hnb]; omega) hsz ?_
  intro v2 w2 hown2 hgrow hbel
  have Hown2 := hide hown2
  have Hbel := hide (hbel w Hb.out)
  clear hown2 hgrow hbel
  go_wp2
  go_ret
  refine ⟨_, rfl, ?_, Hbel.out⟩
  have := Hown2.out
  unfold text
  rw [hl.out]
  exact this
end Go.Proofs.Ytohhlidlgibieaa

/- What 'GetText' does, the program's and the document's. -/
namespace Go.Proofs.Ytohhlidlgibieaa
open Go.RowKit
set_option linter.unusedVariables false

theorem getText_of {l : List Int} {u m : Nat} (h : getNum l = some ((u : Int), m)) : getText l = if 65536 < u ∨ l.length < m + u then none else some ((l.drop m).take u, m + u) := by
  unfold getText
  rw [h]
  simp only [Int.toNat_natCast]
  congr 1
  simp only [eq_iff_iff]
  omega
theorem take_drop' (l : List Int) (m u : Nat) : (l.take (m + u)).drop m = (l.drop m).take u := by
  rw [List.drop_take]; congr 1; omega

set_option maxHeartbeats 1000000 in
set_option maxRecDepth 100000 in
theorem getText_any (a : Option Addr) (n c : Nat) (l : List Int) (w : World) (hA : BS w a n l) (hC : CP a n c) :
    Calls Try.prog 83 #[.slice a n c] w fun e w' => ((getText l = none ∧ e = .returned (.tuple #[.slice none 0 0, .int .i64 0, .int .i64 2])) ∨ ∃ (t : List Int) (m : Nat) (v : Value), getText l = some (t, m) ∧ e = .returned (.tuple #[v, .int .i64 (m : Int), .int .i64 0]) ∧ Own w.heap.size w' v t) ∧ Below w.heap.size w w' := by
  have hmax := hA.2.1
  have hcm := hC.2.1
  have hcn := hC.1
  unfold maxLen at hmax hcm
  have HA := hide hA
  have HC := hide hC
  have hsl : ∀ i : Nat, (if c = i then a else Option.map (fun x => x.add i) a) = slA a c i := fun _ => rfl
  clear hA hC
  go_enter Try.func83, Try.ntmps83
  go_wp2_with fail
  refine (getNum_any a n c l w HA.out HC.out).mono ?_
  rintro e w1 ⟨(⟨hg, rfl⟩ | ⟨x, m, hg, rfl⟩), rfl⟩
  · have hres : Hid (getText l = none) := by unfold getText; rw [hg]; rfl
    clear hg
    go_wp2
    go_ret3
    exact ⟨.inl ⟨hres.out, rfl⟩, Below.refl _ _⟩
  · obtain ⟨g0, g1, g2, g3, g4, g5, g6⟩ := getNum_some HA.out.2.2.1 hg
    have Hg5 := hide (And.intro g5 g6)
    clear g5 g6
    obtain ⟨u, rfl⟩ := Int.eq_ofNat_of_zero_le g0
    have hres := hide (getText_of hg)
    have hlen := hide HA.out.1
    rw [hlen.out] at g4
    clear hg
    by_cases hu : 65536 < u
    · have hu' : (65536 : Int) < u := by omega
      go_wp2
      go_ret3
      exact ⟨.inl ⟨by rw [hres.out, if_pos (.inl hu)], rfl⟩, Below.refl _ _⟩
    · have hu' : decide ((65536 : Int) < u) = false := by simp; omega
      by_cases hn : n < m + u
      · have hn' : (n : Int) - m < u := by omega
        go_wp2
        go_ret3
        exact ⟨.inl ⟨by rw [hres.out, hlen.out, if_pos (.inr hn)], rfl⟩, Below.refl _ _⟩
      · have hn' : ¬ (n : Int) - m < u := by omega
        obtain ⟨k, hk⟩ : ∃ k : Nat, k = m + u := ⟨_, rfl⟩
        have hK : (m : Int) + (u : Int) = (k : Int) := by omega
        have hk1 : (m : Int) ≤ (k : Int) := by omega
        have hk2 : (k : Int) ≤ (c : Int) := by omega
        have Hk := hide hk
        have hcut := hide (HA.out.cut m k c (by omega) (by omega) hcn)
        have hcp := hide (HC.out.cut m k (by omega) (by omega))
        have hkm : Hid (k - m ≤ 1000000) := by show k - m ≤ 1000000; omega
        have i1 : (u : Int) ≤ 65536 := by omega
        have i2 : (m : Int) ≤ 9 := by omega
        have i3 : (n : Int) ≤ 9223372036854775807 := by omega
        have i4 := hide hcn
        have i5 := hide hn
        have i6 := hide hu
        clear hk g0 g1 g2 g3 g4 hu hn hmax hcm hcn
        go_wp2_with fail
        refine (clone_any _ _ _ _ w1 hcut.out hcp.out.2.2 hkm.out).mono ?_
        rintro e w2 ⟨v, rfl, hown, hb⟩
        have Hown := hide hown
        have Hb := hide hb
        clear hown hb
        go_wp2
        go_ret3
        refine ⟨.inr ⟨_, k, v, ?_, rfl, Hown.out⟩, Hb.out⟩
        rw [hres.out, hlen.out, if_neg (by have := i5.out; have := i6.out; omega), Hk.out, take_drop']

set_option maxHeartbeats 1000000 in
set_option maxRecDepth 100000 in
theorem refGetText_any (a : Option Addr) (n c : Nat) (l : List Int) (w : World) (hA : BS w a n l) (hC : CP a n c) :
    Calls Try.prog 66 #[.slice a n c] w fun e w' => ((getText l = none ∧ e = .returned (.tuple #[.slice none 0 0, .int .i64 0])) ∨ ∃ (t : List Int) (m : Nat) (v : Value), getText l = some (t, m) ∧ e = .returned (.tuple #[v, .int .i64 (m : Int)]) ∧ Own w.heap.size w' v t) ∧ Below w.heap.size w w' := by
  have hmax := hA.2.1
  have hcm := hC.2.1
  have hcn := hC.1
  unfold maxLen at hmax hcm
  have HA := hide hA
  have HC := hide hC
  have hsl : ∀ i : Nat, (if c = i then a else Option.map (fun x => x.add i) a) = slA a c i := fun _ => rfl
  clear hA hC
  go_enter Try.func66, Try.ntmps66
  go_wp2_with fail
  refine (refGetNum_any a n c l w HA.out HC.out).mono ?_
  rintro e w1 ⟨(⟨hg, rfl⟩ | ⟨x, m, hg, rfl⟩), hb⟩
  · have hres : Hid (getText l = none) := by unfold getText; rw [hg]; rfl
    have Hb := hide hb
    clear hg hb
    go_wp2
    go_ret2
    exact ⟨.inl ⟨hres.out, rfl⟩, Hb.out⟩
  · obtain ⟨g0, g1, g2, g3, g4, g5, g6⟩ := getNum_some HA.out.2.2.1 hg
    have Hg5 := hide (And.intro g5 g6)
    have Hb := hide hb
    have hsz := hb.size
    clear g5 g6 hb
    obtain ⟨u, rfl⟩ := Int.eq_ofNat_of_zero_le g0
    have hres := hide (getText_of hg)
    have hlen := hide HA.out.1
    rw [hlen.out] at g4
    have hm0 : ((m : Int) == 0) = false := by simp; omega
    clear hg
    by_cases hu : 65536 < u
    · have hu' : (65536 : Int) < u := by omega
      go_wp2
      go_ret2
      exact ⟨.inl ⟨by rw [hres.out, if_pos (.inl hu)], rfl⟩, Hb.out⟩
    · have hu' : decide ((65536 : Int) < u) = false := by simp; omega
      obtain ⟨k, hk⟩ : ∃ k : Nat, k = m + u := ⟨_, rfl⟩
      have hK : (m : Int) + (u : Int) = (k : Int) := by omega
      have Hk := hide hk
      by_cases hn : n < m + u
      · have hn' : (n : Int) < k := by omega
        clear hk
        go_wp2
        go_ret2
        exact ⟨.inl ⟨by rw [hres.out, hlen.out, if_pos (.inr hn)], rfl⟩, Hb.out⟩
      · have hn' : ¬ (n : Int) < k := by omega
        have hk1 : (m : Int) ≤ (k : Int) := by omega
        have hk2 : (k : Int) ≤ (c : Int) := by omega
        have hcut := hide (HA.out.cut m k c (by omega) (by omega) hcn)
        have hcp := hide (HC.out.cut m k (by omega) (by omega))
        have hkm : Hid (k - m ≤ 1000000) := by show k - m ≤ 1000000; omega
        have i1 : (u : Int) ≤ 65536 := by omega
        have i2 : (m : Int) ≤ 9 := by omega
        have i3 : (n : Int) ≤ 9223372036854775807 := by omega
        have i4 := hide hcn
        have i5 := hide hn
        have i6 := hide hu
        clear hk g0 g1 g2 g3 g4 hu hn hmax hcm hcn
        go_wp2_with (at_builtin; refine Stop.at ?_)
        unfold Stop
        refine append_bytes rfl _ _ rfl w.heap.size _ _ _ rfl (Own.made w1 w.heap.size _ rfl hsz) _ _ _ rfl hcp.out.2.2 ((hcut.out.below Hb.out).alloc _) (by have := hkm.out; rw [hcut.out.1]; simp; omega) (by simp; omega) ?_
        intro v w2 hown hgrow hbel
        have Hown := hide hown
        have Hbel := hide (hbel w (Hb.out.alloc hsz _))
        clear hown hgrow hbel
        go_wp2
        go_ret2
        refine ⟨.inr ⟨_, k, v, ?_, rfl, Hown.out⟩, Hbel.out⟩
        rw [hres.out, hlen.out, if_neg (by have := i5.out; have := i6.out; omega), Hk.out, take_drop']
        rfl
end Go.Proofs.Ytohhlidlgibieaa

/- What 'Pack' does, the program's and the document's; texts in memory. -/
namespace Go.Proofs.Ytohhlidlgibieaa
open Go.RowKit
set_option linter.unusedVariables false

/-- A slice of slices of bytes: the texts 'ps', each with its room. -/
def PC (w : World) (a : Option Addr) (n : Nat) (ps : List (List Int)) : Prop :=
  ps.length = n ∧ n ≤ maxLen ∧ (n = 0 ∨ ∃ b off, a = some ⟨b, off, none⟩ ∧ ∀ i, i < n → ∃ x len cap, w.cell? ⟨b, off + i, none⟩ = some (.slice x len cap) ∧ BS w x len (ps.getD i []) ∧ CP x len cap)
theorem PC.ext {w w' : World} {a : Option Addr} {n : Nat} {ps : List (List Int)} (h : PC w a n ps) (hx : Ext w w') : PC w' a n ps := by
  obtain ⟨h1, h2, h3⟩ := h
  refine ⟨h1, h2, ?_⟩
  rcases h3 with h0 | ⟨b, off, ha, hc⟩
  · exact .inl h0
  · refine .inr ⟨b, off, ha, fun i hi => ?_⟩
    obtain ⟨x, len, cap, q1, q2, q3⟩ := hc i hi
    exact ⟨x, len, cap, hx _ _ q1, q2.ext hx, q3⟩
theorem PC.below {w w' : World} {a : Option Addr} {n : Nat} {ps : List (List Int)} (h : PC w a n ps) (hb : Below w.heap.size w w') : PC w' a n ps := h.ext ((Ext.refl w).below hb)
theorem PC.drew {w : World} {a : Option Addr} {n : Nat} {ps : List (List Int)} (h : PC w a n ps) : PC w.drew a n ps := h
theorem PC.alloc {w : World} {a : Option Addr} {n : Nat} {ps : List (List Int)} (h : PC w a n ps) (o : Obj) : PC (w.alloc o) a n ps := h.ext ((Ext.refl w).alloc o)
theorem PC.at {w : World} {a : Option Addr} {n : Nat} {ps : List (List Int)} (h : PC w a n ps) (i : Nat) (hi : i < n) : ∃ b off x len cap, a = some ⟨b, off, none⟩ ∧ w.cell? ⟨b, off + i, none⟩ = some (.slice x len cap) ∧ BS w x len (ps.getD i []) ∧ CP x len cap := by
  rcases h.2.2 with h0 | ⟨b, off, rfl, hc⟩
  · omega
  · obtain ⟨x, len, cap, q⟩ := hc i hi
    exact ⟨b, off, x, len, cap, rfl, q⟩
theorem getD_mem {ps : List (List Int)} {i : Nat} (h : i < ps.length) : ps.getD i [] ∈ ps := by
  have : ps.getD i [] = ps[i] := by simp [List.getD_eq_getElem?_getD, h]
  rw [this]; exact List.getElem_mem h
theorem PC.by {w : World} {a : Option Addr} {n : Nat} {ps : List (List Int)} (h : PC w a n ps) : ∀ p ∈ ps, By p := by
  intro p hp
  obtain ⟨i, hi, rfl⟩ := List.getElem_of_mem hp
  obtain ⟨b, off, x, len, cap, _, _, hb, _⟩ := h.at i (by rw [← h.1]; exact hi)
  have : ps.getD i [] = ps[i] := by simp [List.getD_eq_getElem?_getD, hi]
  rw [← this]
  exact hb.2.2.1
theorem drop_flat (ps : List (List Int)) (k : Nat) (h : k < ps.length) : (ps.drop k).flatMap text = text (ps.getD k []) ++ (ps.drop (k + 1)).flatMap text := by
  rw [List.drop_eq_getElem_cons h, List.flatMap_cons]
  simp [List.getD_eq_getElem?_getD, h]
theorem text_len (t : List Int) : (text t).length ≤ t.length + 9 := by
  unfold text
  rw [List.length_append, num_len]
  have := nb_le t.length
  omega

set_option maxHeartbeats 1000000 in
set_option maxRecDepth 100000 in
theorem pack_any (a : Option Addr) (n c : Nat) (ps : List (List Int)) (w : World) (hA : PC w a n ps) (hn : n ≤ 1000) (hps : ∀ p ∈ ps, p.length ≤ 100000) :
    Calls Try.prog 26 #[.slice a n c] w fun e w' => ∃ v, e = .returned v ∧ Own w.heap.size w' v (pack ps) ∧ Below w.heap.size w w' := by
  have hl := hide hA.1
  have HA := hide hA
  have Hps := hide hps
  clear hA hps
  have hnb := num_len (n : Int)
  have hnb8 := nb_le (n : Int)
  have hnI : (n : Int) ≤ 1000 := by omega
  have Hn := hide hn
  have Hnb := hide hnb
  clear hn hnb
  go_enter Try.func26, Try.ntmps26
  go_wp2_with fail
  refine (num_any (n : Int) w (by omega) (by omega)).mono ?_
  rintro e w1 ⟨v, rfl, hown, hb⟩
  have Hown := hide hown
  have Hb := hide hb
  clear hown hb
  go_wp2
  go_loopw [3, 12] (fun v i wr => ∃ (k : Nat) (acc : List Int), k ≤ n ∧ i = .int .i64 k ∧ Hid (acc ++ (ps.drop k).flatMap text = pack ps) ∧ Hid (acc.length ≤ 9 + k * 100009) ∧ Hid (Own w.heap.size wr v acc) ∧ Hid (Below w.heap.size w wr)) (fun _ i _ => n - (intOf i).toNat)
  case atStart => exact ⟨0, num n, by omega, rfl, by unfold pack; rw [hl.out]; rfl, by have := Hnb.out; show _ ≤ _; omega, Hown.out, Hb.out⟩
  case round =>
    obtain ⟨k, acc, hk, rfl, hacc, hal, hown, hbel⟩ := hrel
    have hsz := hbel.out.size
    by_cases hlt : k < n
    · have hkl : k < ps.length := by rw [hl.out]; exact hlt
      obtain ⟨b, off, x, len, cap, rfl, q, hbs, hcp⟩ := (HA.out.below hbel.out).at k hlt
      have Hbs := hide hbs
      have Hcp := hide hcp
      have hp := hide (Hps.out _ (getD_mem hkl))
      have hlen : Hid (len ≤ 100000) := by have := hbs.1; have := hp.out; show _ ≤ _; omega
      have hdf := hide (drop_flat ps k hkl)
      clear hbs hcp hkl
      have hltI : (k : Int) < (n : Int) := by omega
      go_wp2_with fail
      refine (text_any _ _ _ _ wr Hbs.out Hcp.out.2.2 (by have := hlen.out; omega)).mono ?_
      rintro e w2 ⟨v2, rfl, hown2, hb2⟩
      obtain ⟨p2, cap2, rfl, hbs2, hcp2⟩ := hown2.open (text_by Hbs.out.2.2.1)
      have Hbs2 := hide hbs2
      have Hcp2 := hide hcp2
      have Hb2 := hide hb2
      have Hown2 := hide (hown.out.below hb2)
      have hsz2 := hb2.size
      have hbel2 := hide (hbel.out.trans (hb2.mono hsz))
      clear hown2 hbs2 hcp2 hb2 hown hbel
      go_wp2_with (at_builtin; refine Stop.at ?_)
      unfold Stop
      have htl := hide (text_len (ps.getD k []))
      refine append_bytes rfl _ _ rfl w.heap.size _ _ _ rfl Hown2.out p2 _ cap2 rfl Hcp2.out.2.2 Hbs2.out (by have := hal.out; have := htl.out; have := hp.out; have := Hn.out; omega) (by omega) ?_
      intro v3 w3 hown3 hgrow hbel3
      have Hown3 := hide hown3
      have Hbel3 := hide (hbel3 w hbel2.out)
      have hacc2 : Hid ((acc ++ text (ps.getD k [])) ++ (ps.drop (k + 1)).flatMap text = pack ps) := by rw [← hacc.out, hdf.out, List.append_assoc]; rfl
      have hal2 : Hid ((acc ++ text (ps.getD k [])).length ≤ 9 + (k + 1) * 100009) := by
        have := hal.out; have := htl.out; have := hp.out
        show _ ≤ _
        rw [List.length_append]; omega
      clear hown3 hgrow hbel3 hacc hal htl
      go_wp2
      go_roundw
      case rel => exact ⟨k + 1, _, by omega, by go_num, hacc2, hal2, Hown3, Hbel3⟩
      case measure => simp [intOf]; omega
    · have hkl : k = n := by omega
      subst hkl
      have hE : Hid (acc = pack ps) := by have h2 := hacc.out; rw [List.drop_of_length_le (by rw [hl.out]; exact Nat.le_refl _)] at h2; refine hide ?_; simpa using h2
      have hown2 : Hid (Own w.heap.size wr u3 (pack ps)) := by rw [← hE.out]; exact hown
      clear hown
      go_wp2
      go_ret
      exact ⟨_, rfl, hown2.out, hbel.out⟩

set_option maxHeartbeats 1000000 in
set_option maxRecDepth 100000 in
theorem refPack_any (a : Option Addr) (n c : Nat) (ps : List (List Int)) (w : World) (hA : PC w a n ps) (hn : n ≤ 1000) (hps : ∀ p ∈ ps, p.length ≤ 100000) :
    Calls Try.prog 42 #[.slice a n c] w fun e w' => ∃ v, e = .returned v ∧ Own w.heap.size w' v (pack ps) ∧ Below w.heap.size w w' := by
  have hl := hide hA.1
  have HA := hide hA
  have Hps := hide hps
  clear hA hps
  have hnb := num_len (n : Int)
  have hnb8 := nb_le (n : Int)
  have hnI : (n : Int) ≤ 1000 := by omega
  have Hn := hide hn
  have Hnb := hide hnb
  clear hn hnb
  go_enter Try.func42, Try.ntmps42
  go_wp2_with fail
  refine (refNum_any (n : Int) w (by omega) (by omega)).mono ?_
  rintro e w1 ⟨v, rfl, hown, hb⟩
  have Hown := hide hown
  have Hb := hide hb
  clear hown hb
  go_wp2
  go_loopw [3, 4] (fun v i wr => ∃ (k : Nat) (acc : List Int), k ≤ n ∧ i = .int .i64 k ∧ Hid (acc ++ (ps.drop k).flatMap text = pack ps) ∧ Hid (acc.length ≤ 9 + k * 100009) ∧ Hid (Own w.heap.size wr v acc) ∧ Hid (Below w.heap.size w wr)) (fun _ i _ => n - (intOf i).toNat)
  case atStart => exact ⟨0, num n, by omega, rfl, by unfold pack; rw [hl.out]; rfl, by have := Hnb.out; show _ ≤ _; omega, Hown.out, Hb.out⟩
  case round =>
    obtain ⟨k, acc, hk, rfl, hacc, hal, hown, hbel⟩ := hrel
    have hsz := hbel.out.size
    by_cases hlt : k < n
    · have hkl : k < ps.length := by rw [hl.out]; exact hlt
      obtain ⟨b, off, x, len, cap, rfl, q, hbs, hcp⟩ := (HA.out.below hbel.out).at k hlt
      have Hbs := hide hbs
      have Hcp := hide hcp
      have hp := hide (Hps.out _ (getD_mem hkl))
      have hlen : Hid (len ≤ 100000) := by have := hbs.1; have := hp.out; show _ ≤ _; omega
      have hdf := hide (drop_flat ps k hkl)
      clear hbs hcp hkl
      have hltI : (k : Int) < (n : Int) := by omega
      go_wp2_with fail
      refine (refText_any _ _ _ _ wr Hbs.out Hcp.out.2.2 (by have := hlen.out; omega)).mono ?_
      rintro e w2 ⟨v2, rfl, hown2, hb2⟩
      obtain ⟨p2, cap2, rfl, hbs2, hcp2⟩ := hown2.open (text_by Hbs.out.2.2.1)
      have Hbs2 := hide hbs2
      have Hcp2 := hide hcp2
      have Hb2 := hide hb2
      have Hown2 := hide (hown.out.below hb2)
      have hsz2 := hb2.size
      have hbel2 := hide (hbel.out.trans (hb2.mono hsz))
      clear hown2 hbs2 hcp2 hb2 hown hbel
      go_wp2_with (at_builtin; refine Stop.at ?_)
      unfold Stop
      have htl := hide (text_len (ps.getD k []))
      refine append_bytes rfl _ _ rfl w.heap.size _ _ _ rfl Hown2.out p2 _ cap2 rfl Hcp2.out.2.2 Hbs2.out (by have := hal.out; have := htl.out; have := hp.out; have := Hn.out; omega) (by omega) ?_
      intro v3 w3 hown3 hgrow hbel3
      have Hown3 := hide hown3
      have Hbel3 := hide (hbel3 w hbel2.out)
      have hacc2 : Hid ((acc ++ text (ps.getD k [])) ++ (ps.drop (k + 1)).flatMap text = pack ps) := by rw [← hacc.out, hdf.out, List.append_assoc]; rfl
      have hal2 : Hid ((acc ++ text (ps.getD k [])).length ≤ 9 + (k + 1) * 100009) := by
        have := hal.out; have := htl.out; have := hp.out
        show _ ≤ _
        rw [List.length_append]; omega
      clear hown3 hgrow hbel3 hacc hal htl
      go_wp2
      go_roundw
      case rel => exact ⟨k + 1, _, by omega, by go_num, hacc2, hal2, Hown3, Hbel3⟩
      case measure => simp [intOf]; omega
    · have hkl : k = n := by omega
      subst hkl
      have hE : Hid (acc = pack ps) := by have h2 := hacc.out; rw [List.drop_of_length_le (by rw [hl.out]; exact Nat.le_refl _)] at h2; refine hide ?_; simpa using h2
      have hown2 : Hid (Own w.heap.size wr u3 (pack ps)) := by rw [← hE.out]; exact hown
      clear hown
      go_wp2
      go_ret
      exact ⟨_, rfl, hown2.out, hbel.out⟩
end Go.Proofs.Ytohhlidlgibieaa

/- What the document's 'Packs' does: are lists of texts the same? -/
namespace Go.Proofs.Ytohhlidlgibieaa
open Go.RowKit
set_option linter.unusedVariables false

theorem take_eqP {l m : List (List Int)} (k : Nat) (hl : k < l.length) (hm : k < m.length) (h : l.take k = m.take k) (he : l.getD k [] = m.getD k []) : l.take (k + 1) = m.take (k + 1) := by
  rw [List.take_succ_eq_append_getElem hl, List.take_succ_eq_append_getElem hm, h]
  simp [List.getD_eq_getElem?_getD, hl, hm] at he
  rw [he]

end Go.Proofs.Ytohhlidlgibieaa

/- Texts in memory that the call has made ('OwnP'), and 'append' of one text as one law. -/
namespace Go.Proofs.Ytohhlidlgibieaa
open Go.RowKit
set_option linter.unusedVariables false

/-- A slice value whose texts lie in blocks of the call's own. -/
def OwnP (N : Nat) (w : World) (v : Value) (qs : List (Value × List Int)) : Prop := w.ownsRow N 37 1 v qs.length (qs.map (·.1)) ∧ ∀ q ∈ qs, Own N w q.1 q.2 ∧ By q.2

theorem ownsRow_below {N : Nat} {e : TypeId} {w w' : World} {v : Value} {n : Nat} {xs : List Value} (h : w.ownsRow N e 1 v n xs) (hb : Below w.heap.size w w') : w'.ownsRow N e 1 v n xs := by
  refine ⟨h.1, ?_⟩
  rcases h.2 with hn | ⟨g, cap, cur, rfl, hb', hgg, rest⟩
  · exact .inl hn
  · refine .inr ⟨g, cap, cur, rfl, hb', ?_, rest⟩
    rw [hb.block g (Array.getElem?_eq_some_iff.1 hgg).1]
    exact hgg
theorem OwnP.below {N : Nat} {w w' : World} {v : Value} {qs : List (Value × List Int)} (h : OwnP N w v qs) (hb : Below w.heap.size w w') : OwnP N w' v qs :=
  ⟨ownsRow_below h.1 hb, fun q hq => ⟨(h.2 q hq).1.below hb, (h.2 q hq).2⟩⟩
theorem OwnP.alloc {N : Nat} {w : World} {v : Value} {qs : List (Value × List Int)} (h : OwnP N w v qs) (o : Obj) : OwnP N (w.alloc o) v qs :=
  ⟨World.ownsRow.alloc h.1 o, fun q hq => ⟨(h.2 q hq).1.alloc o, (h.2 q hq).2⟩⟩
theorem OwnP.nil (N : Nat) (w : World) : OwnP N w (.slice none 0 0) [] := ⟨⟨rfl, .inl ⟨rfl, rfl⟩⟩, fun q hq => by cases hq⟩
theorem OwnP.made (w : World) (N g : Nat) (hg : g = w.heap.size) (hN : N ≤ w.heap.size) : OwnP N (w.alloc (.cells #[] 37)) (.slice (some ⟨g, 0, none⟩) 0 0) [] := by
  subst hg; exact ⟨World.ownsRow_made w #[] 0 hN (by decide) rfl, fun q hq => by cases hq⟩
theorem apart_of {N M : Nat} {e f : TypeId} (hef : e ≠ f) {w : World} {v u : Value} {n m : Nat} {xs ys : List Value} (h : w.ownsRow N e 1 v n xs) (k : w.ownsRow M f 1 u m ys) : u.ownBlock = none ∨ u.ownBlock ≠ v.ownBlock := by
  rcases k.2 with ⟨rfl, _⟩ | ⟨g, cap, cur, rfl, _, hg, _⟩
  · exact .inl rfl
  · right
    rcases h.2 with ⟨rfl, _⟩ | ⟨g', cap', cur', rfl, _, hg', _⟩
    · intro hh; simp [Value.ownBlock] at hh
    · intro hh
      simp [Value.ownBlock] at hh
      subst hh
      rw [hg] at hg'
      simp at hg'
      exact hef hg'.2.symm
theorem OwnP.open {N : Nat} {w : World} {v : Value} {qs : List (Value × List Int)} (h : OwnP N w v qs) : ∃ p cap, v = .slice p qs.length cap ∧ PC w p qs.length (qs.map (·.2)) ∧ CP p qs.length cap := by
  have h0 := h.1
  obtain ⟨_, h2⟩ := h.1
  rcases h2 with ⟨rfl, h2⟩ | ⟨g, cap, cur, rfl, hb, hg, hc1, hc2, hs, ht⟩
  · exact ⟨none, 0, by rw [h2], ⟨by simp, by rw [h2]; decide, .inl h2⟩, by omega, by decide, fun _ => rfl⟩
  · refine ⟨some ⟨g, 0, none⟩, cap, rfl, ⟨by simp, by omega, .inr ⟨g, 0, rfl, fun i hi => ?_⟩⟩, hc1, hc2, fun h => by cases h⟩
    obtain ⟨o1, o2⟩ := h.2 qs[i] (List.getElem_mem hi)
    obtain ⟨p, c, hv, hbs, hcp⟩ := o1.open o2
    refine ⟨p, _, c, ?_, ?_, hcp⟩
    · rw [Nat.zero_add, World.ownsRow.cellAt h0 i (by omega), ← hv]
      simp [hi]
    · have : (qs.map (·.2)).getD i [] = qs[i].2 := by simp [List.getD_eq_getElem?_getD, hi]
      rw [this]; exact hbs

theorem Try.infoTx : (Try.prog.info? 37).map (fun i => (i.zero, i.size, i.bytes)) = some (some (.slice none 0 0), 1, 24) := by kernel_rfl

/-- 'append(v, t)', 'v' texts of the call's own, 't' one more. -/
theorem append_text {w : World} {ops : Array Oper} {rest : List Oper} {o : Oper} {a : Act} {Q : Exit → Act → World → Prop} (hgd : o.guard = none) (s x : Operand)
    (ho : o.op = .call { callee := .builtin .append, args := #[s, x], argTypes := #[55, 55] })
    (N : Nat) (v : Value) (qs : List (Value × List Int)) (u : Value) (t : List Int) (g : Nat) (hg : g = w.heap.size) (hs : a.eval s = v) (hown : OwnP N w v qs) (hu : Own N w u t) (ht : By t) (hx : a.eval x = .slice (some ⟨g, 0, none⟩) 1 1)
    (hbig : qs.length ≤ 1000000) (hN : N ≤ w.heap.size)
    (h : ∀ v' w', OwnP N w' v' (qs ++ [(u, t)]) → (∀ w0, Below N w0 w → Below N w0 w') → wpList Try.prog ops Q rest (a.put o.dst v') w') : wpList Try.prog ops Q (o :: rest) a (w.alloc (.cells #[u] 37)) := by
  subst hg
  obtain ⟨i0, hi, hz0, hz1, hz2⟩ := info_parts Try.infoTx
  obtain ⟨hr, he⟩ := hown
  have hone : u.oneCell' = true := by
    rcases hu.2 with ⟨rfl, _⟩ | ⟨_, _, _, rfl, _⟩ <;> rfl
  refine wpList_append_own (w.alloc (.cells #[u] 37)) hgd s x 55 ho N 37 i0 (.slice none 0 0) 1 24 Try.underlying55 hi hz0 hz1 hz2 rfl (by decide) v _ _ hs (World.ownsRow.alloc hr _) ⟨w.heap.size, 0, none⟩ 1 1 [u] hx rfl ?_ ?_ (by unfold maxLen; omega) (by omega) (by simp; omega) ?_
  · intro j u' hj
    match j, hj with
    | 0, hj => simp at hj; subst hj; simp [Addr.add]
  · intro u' hu'; simp at hu'; subst hu'; exact hone
  · intro v' w' h1 h2 _
    refine h v' w' ⟨by simpa using h1, fun q hq => ?_⟩ (fun w0 hb => (hb.alloc hN _).grown h2 (by simp; omega) (fun j hj => (World.ownsRow.lt hr j hj).1))
    have hq' : Own N w q.1 q.2 ∧ By q.2 := by
      rcases List.mem_append.1 hq with hq | hq
      · exact he q hq
      · simp at hq; subst hq; exact ⟨hu, ht⟩
    refine ⟨World.ownsRow.kept (World.ownsRow.alloc hq'.1 _) h2 ?_, hq'.2⟩
    exact apart_of (by decide) hr hq'.1
end Go.Proofs.Ytohhlidlgibieaa

/- What 'Unpack' does, the program's and the document's. -/
namespace Go.Proofs.Ytohhlidlgibieaa
open Go.RowKit
set_option linter.unusedVariables false

def cont (acc : List (List Int)) (at_ : Nat) (o : Option (List (List Int) × Nat)) : Option (List (List Int) × Nat) := o.map fun r => (acc ++ r.1, at_ + r.2)
theorem cont_none {acc : List (List Int)} {at_ k : Nat} {l : List Int} (h : getText (l.drop at_) = none) : cont acc at_ (gets (k + 1) (l.drop at_)) = none := by
  unfold gets
  rw [h]; rfl
theorem cont_some {acc : List (List Int)} {at_ k : Nat} {l t : List Int} {n : Nat} (h : getText (l.drop at_) = some (t, n)) : cont acc at_ (gets (k + 1) (l.drop at_)) = cont (acc ++ [t]) (at_ + n) (gets k (l.drop (at_ + n))) := by
  conv => lhs; unfold gets
  rw [h]
  simp only [List.drop_drop]
  rcases gets k (l.drop (at_ + n)) with _ | ⟨r, m⟩
  · rfl
  · simp [cont, Nat.add_assoc]
theorem cont_zero (acc : List (List Int)) (at_ : Nat) (l : List Int) : cont acc at_ (gets 0 (l.drop at_)) = some (acc, at_) := by simp [gets, cont]
theorem unpack_of {l : List Int} {u m : Nat} {most : Int} (h : getNum l = some ((u : Int), m)) (hm : ¬ most < u) : unpack l most = cont [] m (gets u (l.drop m)) := by
  unfold unpack
  rw [h]
  simp only [Int.toNat_natCast]
  rw [if_neg hm]
  rcases gets u (l.drop m) with _ | ⟨r, k⟩ <;> rfl
theorem unpack_big {l : List Int} {u : Int} {m : Nat} {most : Int} (h : getNum l = some (u, m)) (hm : most < u) : unpack l most = none := by
  unfold unpack
  rw [h]
  simp only []
  rw [if_pos hm]
theorem unpack_no {l : List Int} {most : Int} (h : getNum l = none) : unpack l most = none := by
  unfold unpack
  rw [h]
theorem BS.rest {w : World} {a : Option Addr} {n c : Nat} {l : List Int} (h : BS w a n l) (i : Nat) (hi : i ≤ n) (hc : n ≤ c) : BS w (slA a c i) (n - i) (l.drop i) := by
  have := h.cut i n c hi (Nat.le_refl _) hc
  rw [List.take_of_length_le (by rw [h.1]; exact Nat.le_refl _)] at this
  exact this

set_option maxHeartbeats 2000000 in
set_option maxRecDepth 100000 in
theorem unpack_arg (a : Option Addr) (n c : Nat) (most : Int) (w : World) (hm : most < 0 ∨ 1000 < most) :
    Calls Try.prog 59 #[.slice a n c, .int .i64 most] w fun e w' => e = .returned (.tuple #[.slice none 0 0, .int .i64 0, .int .i64 1]) ∧ w' = w := by
  rcases hm with h | h
  · go_enter Try.func59, Try.ntmps59
    go_wp2
    go_ret3
    exact ⟨rfl, rfl⟩
  · have h' : decide (most < 0) = false := by simp; omega
    go_enter Try.func59, Try.ntmps59
    go_wp2
    go_ret3
    exact ⟨rfl, rfl⟩

set_option maxHeartbeats 2000000 in
set_option maxRecDepth 100000 in
theorem unpack_any (a : Option Addr) (n c : Nat) (l : List Int) (most : Int) (w : World) (hA : BS w a n l) (hC : CP a n c) (hm0 : 0 ≤ most) (hm1 : most ≤ 1000) :
    Calls Try.prog 59 #[.slice a n c, .int .i64 most] w fun e w' => ((unpack l most = none ∧ e = .returned (.tuple #[.slice none 0 0, .int .i64 0, .int .i64 2])) ∨ ∃ (qs : List (Value × List Int)) (m : Nat) (v : Value), unpack l most = some (qs.map (·.2), m) ∧ e = .returned (.tuple #[v, .int .i64 (m : Int), .int .i64 0]) ∧ OwnP w.heap.size w' v qs) ∧ Below w.heap.size w w' := by
  have hcm : (c : Int) ≤ 9223372036854775807 := by have := hC.2.1; unfold maxLen at this; omega
  have hcn : (n : Int) ≤ (c : Int) := by have := hC.1; omega
  have HA := hide hA
  have HC := hide hC
  have hsl : ∀ i : Nat, (if c = i then a else Option.map (fun x => x.add i) a) = slA a c i := fun _ => rfl
  have hd0 : decide (most < 0) = false := by simp; omega
  clear hA hC
  go_enter Try.func59, Try.ntmps59
  go_wp2_with fail
  refine (getNum_any a n c l w HA.out HC.out).mono ?_
  rintro e w1 ⟨(⟨hg, rfl⟩ | ⟨x, m, hg, rfl⟩), rfl⟩
  · have hres := hide (unpack_no (most := most) hg)
    clear hg
    go_wp2
    go_ret3
    exact ⟨.inl ⟨hres.out, rfl⟩, Below.refl _ _⟩
  · obtain ⟨g0, g1, g2, g3, g4, g5, g6⟩ := getNum_some HA.out.2.2.1 hg
    obtain ⟨u, rfl⟩ := Int.eq_ofNat_of_zero_le g0
    have Hg := hide hg
    have hl := hide HA.out.1
    have hmn : (m : Int) ≤ (n : Int) := by have := hl.out; omega
    have hm9 : (m : Int) ≤ 9 := by omega
    clear g2 g3 g4 g5 g6 hg
    by_cases hu : most < (u : Int)
    · have hres := hide (unpack_big Hg.out hu)
      go_wp2
      go_ret3
      exact ⟨.inl ⟨hres.out, rfl⟩, Below.refl _ _⟩
    · have hres := hide (unpack_of Hg.out hu)
      have hu1 : (u : Int) ≤ 1000 := by omega
      clear g1
      go_wp2
      go_loopw [8, 10, 35] (fun at_ v i wr => ∃ (j p : Nat) (qs : List (Value × List Int)), j ≤ u ∧ i = .int .u64 (j : Int) ∧ at_ = .int .i64 (p : Int) ∧ p ≤ n ∧ qs.length = j ∧ Hid (unpack l most = cont (qs.map (·.2)) p (gets (u - j) (l.drop p))) ∧ Hid (OwnP w1.heap.size wr v qs) ∧ Hid (Below w1.heap.size w1 wr)) (fun _ _ i _ => u - (intOf i).toNat)
      case atStart => exact ⟨0, m, [], by omega, rfl, rfl, by omega, rfl, hres.out, OwnP.nil _ _, Below.refl _ _⟩
      case round =>
        obtain ⟨j, p, qs, hj, rfl, rfl, hp, hq, hun, hown, hbel⟩ := hrel
        have hsz := hbel.out.size
        have Hq := hide hq
        clear hq
        by_cases hlt : j < u
        · have hltI : (j : Int) < (u : Int) := by omega
          have hpI : (p : Int) ≤ (n : Int) := by omega
          have hpc : (p : Int) ≤ (c : Int) := by omega
          have hbs := hide ((HA.out.below hbel.out).rest (c := c) p hp (by omega))
          have hcp := hide (HC.out.cut p n (Nat.le_refl _) hp)
          obtain ⟨r, hr⟩ : ∃ r, u - j = r + 1 := ⟨u - j - 1, by omega⟩
          have hr2 : Hid (u - (j + 1) = r) := by show u - (j + 1) = r; omega
          rw [hr] at hun
          clear hr
          go_wp2_with fail
          refine (getText_any _ _ _ _ wr hbs.out hcp.out).mono ?_
          rintro e w2 ⟨(⟨hg, rfl⟩ | ⟨t, k, v2, hg, rfl, hown2⟩), hb2⟩
          · have hres2 : Hid (unpack l most = none) := by rw [hun.out, cont_none hg]; rfl
            have hbel2 := hide (hbel.out.trans (hb2.mono hsz))
            clear hg hb2 hown hbel
            go_wp2
            go_ret3
            exact ⟨.inl ⟨hres2.out, rfl⟩, hbel2.out⟩
          · have hun2 : Hid (unpack l most = cont ((qs ++ [(v2, t)]).map (·.2)) (p + k) (gets (u - (j + 1)) (l.drop (p + k)))) := by
              refine hide ?_
              rw [hun.out, cont_some hg, hr2.out]; simp
            obtain ⟨k1, k2, k3, k4, k5⟩ := getText_some (By.drop HA.out.2.2.1 p) hg
            rw [List.length_drop, hl.out] at k2
            have hpk : p + k ≤ n := by omega
            have hbel2 := hide (hbel.out.trans (hb2.mono hsz))
            have Hown := hide (hown.out.below hb2)
            have Hown2 := hide (hown2.mono hsz)
            have hby := hide k5
            obtain ⟨p2, cap2, rfl, _, _⟩ := hown2.open k5
            have hsz2 := hbel2.out.size
            have hkI : (p : Int) + (k : Int) ≤ 9223372036854775807 := by omega
            clear hg hb2 hown hown2 hbel hun k1 k2 k3 k4 k5
            go_wp2_with (at_builtin; refine Stop.at ?_)
            unfold Stop
            refine append_text rfl _ _ rfl w1.heap.size u10 qs (.slice p2 t.length cap2) t _ rfl rfl Hown.out Hown2.out hby.out rfl (by have := Hq.out; omega) hsz2 ?_
            intro v3 w3 hown3 hbel3
            have Hown3 := hide hown3
            have Hbel3 := hide (hbel3 w1 hbel2.out)
            clear hown3 hbel3 Hown Hown2
            go_wp2
            go_roundw
            case rel => exact ⟨j + 1, p + k, qs ++ [(_, t)], by omega, by go_num, by go_num, hpk, by have := Hq.out; simp; omega, hun2, Hown3, Hbel3⟩
            case measure => simp [intOf]; omega
        · have hju : j = u := by omega
          subst hju
          have hres2 : Hid (unpack l most = some (qs.map (·.2), p)) := by refine hide ?_; rw [hun.out, Nat.sub_self, cont_zero]
          go_wp2
          go_ret3
          exact ⟨.inr ⟨qs, p, _, hres2.out, rfl, hown.out⟩, hbel.out⟩
end Go.Proofs.Ytohhlidlgibieaa

/- What the document's 'Unpack' does. -/
namespace Go.Proofs.Ytohhlidlgibieaa
open Go.RowKit
set_option linter.unusedVariables false

set_option maxHeartbeats 2000000 in
set_option maxRecDepth 100000 in
theorem refUnpack_any (a : Option Addr) (n c : Nat) (l : List Int) (most : Int) (w : World) (hA : BS w a n l) (hC : CP a n c) (hm0 : 0 ≤ most) (hm1 : most ≤ 1000) :
    Calls Try.prog 45 #[.slice a n c, .int .i64 most] w fun e w' => ((unpack l most = none ∧ e = .returned (.tuple #[.slice none 0 0, .int .i64 0])) ∨ ∃ (qs : List (Value × List Int)) (m : Nat) (v : Value), unpack l most = some (qs.map (·.2), m) ∧ e = .returned (.tuple #[v, .int .i64 (m : Int)]) ∧ OwnP w.heap.size w' v qs) ∧ Below w.heap.size w w' := by
  have hcm : (c : Int) ≤ 9223372036854775807 := by have := hC.2.1; unfold maxLen at this; omega
  have hcn : (n : Int) ≤ (c : Int) := by have := hC.1; omega
  have HA := hide hA
  have HC := hide hC
  have hsl : ∀ i : Nat, (if c = i then a else Option.map (fun x => x.add i) a) = slA a c i := fun _ => rfl
  clear hA hC
  go_enter Try.func45, Try.ntmps45
  go_wp2_with fail
  refine (refGetNum_any a n c l w HA.out HC.out).mono ?_
  rintro e w1 ⟨(⟨hg, rfl⟩ | ⟨x, m, hg, rfl⟩), hb⟩
  · have hres := hide (unpack_no (most := most) hg)
    have Hb := hide hb
    clear hg hb
    go_wp2
    go_ret2
    exact ⟨.inl ⟨hres.out, rfl⟩, Hb.out⟩
  · obtain ⟨g0, g1, g2, g3, g4, g5, g6⟩ := getNum_some HA.out.2.2.1 hg
    obtain ⟨u, rfl⟩ := Int.eq_ofNat_of_zero_le g0
    have Hg := hide hg
    have hl := hide HA.out.1
    have hmn : (m : Int) ≤ (n : Int) := by have := hl.out; omega
    have hm9 : (m : Int) ≤ 9 := by omega
    have hm0' : ((m : Int) == 0) = false := by simp; omega
    have Hb := hide hb
    have hsz1 := hb.size
    clear g2 g3 g4 g5 g6 hg hb
    by_cases hu : most < (u : Int)
    · have hres := hide (unpack_big Hg.out hu)
      go_wp2
      go_ret2
      exact ⟨.inl ⟨hres.out, rfl⟩, Hb.out⟩
    · have hres := hide (unpack_of Hg.out hu)
      have hu1 : (u : Int) ≤ 1000 := by omega
      clear g1
      go_wp2
      go_loopw [7, 8, 9] (fun at_ v i wr => ∃ (j p : Nat) (qs : List (Value × List Int)), j ≤ u ∧ i = .int .i64 (j : Int) ∧ at_ = .int .i64 (p : Int) ∧ p ≤ n ∧ qs.length = j ∧ Hid (unpack l most = cont (qs.map (·.2)) p (gets (u - j) (l.drop p))) ∧ Hid (OwnP w.heap.size wr v qs) ∧ Hid (Below w.heap.size w wr)) (fun _ _ i _ => u - (intOf i).toNat)
      case atStart => exact ⟨0, m, [], by omega, rfl, rfl, by omega, rfl, hres.out, OwnP.made w1 _ _ rfl hsz1, Hb.out.alloc hsz1 _⟩
      case round =>
        obtain ⟨j, p, qs, hj, rfl, rfl, hp, hq, hun, hown, hbel⟩ := hrel
        have hsz := hbel.out.size
        have Hq := hide hq
        clear hq
        by_cases hlt : j < u
        · have hltI : (j : Int) < (u : Int) := by omega
          have hpI : (p : Int) ≤ (n : Int) := by omega
          have hpc : (p : Int) ≤ (c : Int) := by omega
          have hbs := hide ((HA.out.below hbel.out).rest (c := c) p hp (by omega))
          have hcp := hide (HC.out.cut p n (Nat.le_refl _) hp)
          obtain ⟨r, hr⟩ : ∃ r, u - j = r + 1 := ⟨u - j - 1, by omega⟩
          have hr2 : Hid (u - (j + 1) = r) := by show u - (j + 1) = r; omega
          rw [hr] at hun
          clear hr
          go_wp2_with fail
          refine (refGetText_any _ _ _ _ wr hbs.out hcp.out).mono ?_
          rintro e w2 ⟨(⟨hg, rfl⟩ | ⟨t, k, v2, hg, rfl, hown2⟩), hb2⟩
          · have hres2 : Hid (unpack l most = none) := by rw [hun.out, cont_none hg]; rfl
            have hbel2 := hide (hbel.out.trans (hb2.mono hsz))
            clear hg hb2 hown hbel
            go_wp2
            go_ret2
            exact ⟨.inl ⟨hres2.out, rfl⟩, hbel2.out⟩
          · have hun2 : Hid (unpack l most = cont ((qs ++ [(v2, t)]).map (·.2)) (p + k) (gets (u - (j + 1)) (l.drop (p + k)))) := by
              refine hide ?_
              rw [hun.out, cont_some hg, hr2.out]; simp
            obtain ⟨k1, k2, k3, k4, k5⟩ := getText_some (By.drop HA.out.2.2.1 p) hg
            rw [List.length_drop, hl.out] at k2
            have hpk : p + k ≤ n := by omega
            have hbel2 := hide (hbel.out.trans (hb2.mono hsz))
            have Hown := hide (hown.out.below hb2)
            have Hown2 := hide (hown2.mono hsz)
            have hby := hide k5
            obtain ⟨p2, cap2, rfl, _, _⟩ := hown2.open k5
            have hsz2 := hbel2.out.size
            have hkI : (p : Int) + (k : Int) ≤ 9223372036854775807 := by omega
            have hk0 : ((k : Int) == 0) = false := by simp; omega
            clear hg hb2 hown hown2 hbel hun k1 k2 k3 k4 k5
            go_wp2_with (at_builtin; refine Stop.at ?_)
            unfold Stop
            refine append_text rfl _ _ rfl w.heap.size u8 qs (.slice p2 t.length cap2) t _ rfl rfl Hown.out Hown2.out hby.out rfl (by have := Hq.out; omega) hsz2 ?_
            intro v3 w3 hown3 hbel3
            have Hown3 := hide hown3
            have Hbel3 := hide (hbel3 w hbel2.out)
            clear hown3 hbel3 Hown Hown2
            go_wp2
            go_roundw
            case rel => exact ⟨j + 1, p + k, qs ++ [(_, t)], by omega, by go_num, by go_num, hpk, by have := Hq.out; simp; omega, hun2, Hown3, Hbel3⟩
            case measure => simp [intOf]; omega
        · have hju : j = u := by omega
          subst hju
          have hres2 : Hid (unpack l most = some (qs.map (·.2), p)) := by refine hide ?_; rw [hun.out, Nat.sub_self, cont_zero]
          go_wp2
          go_ret2
          exact ⟨.inr ⟨qs, p, _, hres2.out, rfl, hown.out⟩, hbel.out⟩
end Go.Proofs.Ytohhlidlgibieaa

/- What 'Put' does, the program's and the document's. -/
namespace Go.Proofs.Ytohhlidlgibieaa
open Go.RowKit
set_option linter.unusedVariables false

/-- Texts that the call has made are the bytes of these numbers. -/
def Nums (N : Nat) (w : World) (v : Value) (c : List Int) : Prop := ∃ qs, OwnP N w v qs ∧ qs.map (·.2) = c.map num
theorem Nums.nil (N : Nat) (w : World) : Nums N w (.slice none 0 0) [] := ⟨[], OwnP.nil _ _, rfl⟩
theorem Nums.made (w : World) (N g : Nat) (hg : g = w.heap.size) (hN : N ≤ w.heap.size) : Nums N (w.alloc (.cells #[] 37)) (.slice (some ⟨g, 0, none⟩) 0 0) [] := ⟨[], OwnP.made w N g hg hN, rfl⟩
theorem Nums.below {N : Nat} {w w' : World} {v : Value} {c : List Int} (h : Nums N w v c) (hb : Below w.heap.size w w') : Nums N w' v c := ⟨h.choose, h.choose_spec.1.below hb, h.choose_spec.2⟩
theorem Nums.open {N : Nat} {w : World} {v : Value} {c : List Int} (h : Nums N w v c) : ∃ p cap, v = .slice p c.length cap ∧ PC w p c.length (c.map num) ∧ CP p c.length cap := by
  obtain ⟨qs, h1, h2⟩ := h
  have hl : qs.length = c.length := by have := congrArg List.length h2; simpa using this
  obtain ⟨p, cap, hv, hpc, hcp⟩ := h1.open
  rw [hl] at hv hpc hcp
  rw [h2] at hpc
  exact ⟨p, cap, hv, hpc, hcp⟩

/-- 'append(texts, Num(x))'. -/
theorem append_num {w : World} {ops : Array Oper} {rest : List Oper} {o : Oper} {a : Act} {Q : Exit → Act → World → Prop} (hgd : o.guard = none) (s x : Operand)
    (ho : o.op = .call { callee := .builtin .append, args := #[s, x], argTypes := #[55, 55] })
    (N : Nat) (v : Value) (c : List Int) (u : Value) (y : Int) (g : Nat) (hg : g = w.heap.size) (hs : a.eval s = v) (hown : Nums N w v c) (hu : Own N w u (num y)) (hx : a.eval x = .slice (some ⟨g, 0, none⟩) 1 1)
    (hbig : c.length ≤ 1000000) (hN : N ≤ w.heap.size)
    (h : ∀ v' w', Nums N w' v' (c ++ [y]) → (∀ w0, Below N w0 w → Below N w0 w') → wpList Try.prog ops Q rest (a.put o.dst v') w') : wpList Try.prog ops Q (o :: rest) a (w.alloc (.cells #[u] 37)) := by
  obtain ⟨qs, h1, h2⟩ := hown
  have hl : qs.length = c.length := by have := congrArg List.length h2; simpa using this
  refine append_text hgd s x ho N v qs u (num y) g hg hs h1 hu (num_by y) hx (by omega) hN ?_
  intro v' w' g1 g2
  exact h v' w' ⟨_, g1, by simp [h2]⟩ g2

set_option maxHeartbeats 2000000 in
theorem Put_any (a : Option Addr) (n cap : Nat) (c : List Int) (w : World) (hN : NS w a n c) :
    Calls Try.prog 28 #[.slice a n cap] w fun e w' => ∃ v, e = .returned v ∧ Own w.heap.size w' v (putC c) ∧ Below w.heap.size w w' := by
  have HN := hide hN
  clear hN
  have HE : Hid (pack ((pln (vec c)).map num) = putC c) := rfl
  have HBd : Hid (∀ x ∈ pln (vec c), 0 ≤ x ∧ x ≤ 1048576) := fun x hx => vec_bd c x (List.mem_of_mem_take hx)
  have HL5 : Hid ((pln (vec c)).length ≤ 5) := by unfold Hid; rw [pln_length]; have := plen_le (vec c); rw [vec_len] at this; exact this
  go_enter Try.func28, Try.ntmps28
  go_wp2_with fail
  refine (Plain_any _ _ _ c _ HN.out).mono ?_
  rintro e w1 ⟨v1, rfl, hO, hb1⟩
  obtain ⟨p, cp, hv, hns, hcp⟩ := hO.open
  subst hv
  have HB1 := hide hb1
  have HP := hide hns
  generalize pln (vec c) = L at *
  have hm5 : L.length ≤ 5 := HL5.out
  clear hO hb1 hns hcp HN
  obtain ⟨m, hm⟩ : ∃ m, m = L.length := ⟨_, rfl⟩
  rw [← hm] at HP hm5
  have Hm := hide hm
  have hmI : (m : Int) ≤ 5 := by omega
  rw [← hm]
  clear hm
  go_wp2
  go_loopw [3, 9] (fun v i wr => ∃ k : Nat, k ≤ m ∧ i = .int .i64 k ∧ Hid (Nums w1.heap.size wr v (L.take k)) ∧ Hid (Below w1.heap.size w1 wr)) (fun _ i _ => m - (intOf i).toNat)
  case atStart => exact ⟨0, by omega, rfl, Nums.nil _ _, Below.refl _ _⟩
  case round =>
    obtain ⟨k, hk, rfl, hO, hB⟩ := hrel
    obtain ⟨pv, cv, hv, _, _⟩ := hO.out.open
    subst hv
    by_cases hlt : k < m
    · rcases (HP.out.below hB.out).2.2 with h0 | ⟨b, off, rfl, hc⟩
      · omega
      · have hck := hc k hlt
        have hx := HBd.out (L.getD k 0) (by have e : L.getD k 0 = L[k]'(by rw [← Hm.out]; exact hlt) := by simp [List.getD_eq_getElem?_getD, List.getElem?_eq_getElem (show k < L.length by rw [← Hm.out]; exact hlt)]
                                            rw [e]; exact List.getElem_mem _)
        have HT := hide (take_snoc (L := L) (k := k) (x := L.getD k 0) (by rw [← Hm.out]; exact hlt) rfl)
        have HLn : Hid ((L.take k).length ≤ 5) := by unfold Hid; rw [List.length_take, ← Hm.out]; omega
        generalize L.getD k 0 = x at *
        generalize L.take k = T at *
        obtain ⟨hx0, hx1⟩ := hx
        have hx2 : x < 18446744073709551616 := by omega
        have hsz := hB.out.size
        clear hc
        go_wp2_with fail
        refine (num_any x _ hx0 hx2).mono ?_
        rintro e w2 ⟨v2, rfl, hO2, hb2⟩
        obtain ⟨p2, c2, hv2, _, _⟩ := hO2.open (num_by x)
        subst hv2
        have HB3 := hide (bel_next hB.out hb2)
        have HO3 := hide (hO.out.below hb2)
        have HN2 := hide (hO2.mono hsz)
        have hsz2 := HB3.out.size
        clear hO hB hO2 hb2
        go_wp2_with (at_builtin; refine Stop.at ?_)
        unfold Stop
        refine append_num rfl _ _ rfl w1.heap.size (.slice pv T.length cv) T (.slice p2 (num x).length c2) x _ rfl rfl HO3.out HN2.out rfl (by have := HLn.out; omega) hsz2 ?_
        intro v' w' g1 g2
        have G1 := hide g1
        have G2 := hide (g2 _ HB3.out)
        clear g1 g2 HO3 HN2 HB3
        go_wp2
        go_roundw
        case rel => exact ⟨k + 1, by omega, by go_num, by unfold Hid; rw [HT.out]; exact G1.out, G2⟩
        case measure => simp [intOf]; omega
    · have hkl : k = m := by omega
      subst hkl
      have HT : Hid (L.take k = L) := List.take_of_length_le (by rw [Hm.out]; exact Nat.le_refl _)
      have hO2 := hO.out
      rw [HT.out] at hO2
      obtain ⟨p3, c3, hv3, hpc, _⟩ := hO2.open
      rw [HT.out]
      cases hv3
      have HPC := hide hpc
      have HLn := hide (nums_short L)
      clear hO hO2 hpc HT
      go_wp2_with fail
      refine (pack_any _ _ _ _ _ HPC.out (by have := HL5.out; omega) (fun t ht => by have := HLn.out t ht; omega)).mono ?_
      rintro e w3 ⟨v3, rfl, hO3, hb3⟩
      have HO3 := hide hO3
      have HB3 := hide (bel_next (bel_next HB1.out hB.out) hb3)
      have hsz : w.heap.size ≤ wr.heap.size := Nat.le_trans HB1.out.size hB.out.size
      clear hO3 hb3
      go_wp2
      go_ret
      rw [← HE.out]
      exact ⟨_, rfl, HO3.out.mono hsz, HB3.out⟩

set_option maxHeartbeats 2000000 in
theorem put_ref (a : Option Addr) (n cap : Nat) (c : List Int) (w : World) (hN : NS w a n c) :
    Calls Try.prog 44 #[.slice a n cap] w fun e w' => ∃ v, e = .returned v ∧ Own w.heap.size w' v (putC c) ∧ Below w.heap.size w w' := by
  have HN := hide hN
  clear hN
  have HE : Hid (pack ((pln (vec c)).map num) = putC c) := rfl
  have HBd : Hid (∀ x ∈ pln (vec c), 0 ≤ x ∧ x ≤ 1048576) := fun x hx => vec_bd c x (List.mem_of_mem_take hx)
  have HL5 : Hid ((pln (vec c)).length ≤ 5) := by unfold Hid; rw [pln_length]; have := plen_le (vec c); rw [vec_len] at this; exact this
  go_enter Try.func44, Try.ntmps44
  go_wp2_with fail
  refine (plain_ref _ _ _ c _ HN.out).mono ?_
  rintro e w1 ⟨v1, rfl, hO, hb1⟩
  obtain ⟨p, cp, hv, hns, hcp⟩ := hO.open
  subst hv
  have HB1 := hide hb1
  have HP := hide hns
  generalize pln (vec c) = L at *
  have hm5 : L.length ≤ 5 := HL5.out
  clear hO hb1 hns hcp HN
  obtain ⟨m, hm⟩ : ∃ m, m = L.length := ⟨_, rfl⟩
  rw [← hm] at HP hm5
  have Hm := hide hm
  have hmI : (m : Int) ≤ 5 := by omega
  rw [← hm]
  clear hm
  go_wp2
  go_loopw [3, 4] (fun v i wr => ∃ k : Nat, k ≤ m ∧ i = .int .i64 k ∧ Hid (Nums w1.heap.size wr v (L.take k)) ∧ Hid (Below w1.heap.size w1 wr)) (fun _ i _ => m - (intOf i).toNat)
  case atStart => exact ⟨0, by omega, rfl, Nums.made _ _ _ rfl (Nat.le_refl _), bel1 _ _⟩
  case round =>
    obtain ⟨k, hk, rfl, hO, hB⟩ := hrel
    obtain ⟨pv, cv, hv, _, _⟩ := hO.out.open
    subst hv
    by_cases hlt : k < m
    · rcases (HP.out.below hB.out).2.2 with h0 | ⟨b, off, rfl, hc⟩
      · omega
      · have hck := hc k hlt
        have hx := HBd.out (L.getD k 0) (by have e : L.getD k 0 = L[k]'(by rw [← Hm.out]; exact hlt) := by simp [List.getD_eq_getElem?_getD, List.getElem?_eq_getElem (show k < L.length by rw [← Hm.out]; exact hlt)]
                                            rw [e]; exact List.getElem_mem _)
        have HT := hide (take_snoc (L := L) (k := k) (x := L.getD k 0) (by rw [← Hm.out]; exact hlt) rfl)
        have HLn : Hid ((L.take k).length ≤ 5) := by unfold Hid; rw [List.length_take, ← Hm.out]; omega
        generalize L.getD k 0 = x at *
        generalize L.take k = T at *
        obtain ⟨hx0, hx1⟩ := hx
        have hx2 : x < 18446744073709551616 := by omega
        have hsz := hB.out.size
        clear hc
        go_wp2_with fail
        refine (refNum_any x _ hx0 hx2).mono ?_
        rintro e w2 ⟨v2, rfl, hO2, hb2⟩
        obtain ⟨p2, c2, hv2, _, _⟩ := hO2.open (num_by x)
        subst hv2
        have HB3 := hide (bel_next hB.out hb2)
        have HO3 := hide (hO.out.below hb2)
        have HN2 := hide (hO2.mono hsz)
        have hsz2 := HB3.out.size
        clear hO hB hO2 hb2
        go_wp2_with (at_builtin; refine Stop.at ?_)
        unfold Stop
        refine append_num rfl _ _ rfl w1.heap.size (.slice pv T.length cv) T (.slice p2 (num x).length c2) x _ rfl rfl HO3.out HN2.out rfl (by have := HLn.out; omega) hsz2 ?_
        intro v' w' g1 g2
        have G1 := hide g1
        have G2 := hide (g2 _ HB3.out)
        clear g1 g2 HO3 HN2 HB3
        go_wp2
        go_roundw
        case rel => exact ⟨k + 1, by omega, by go_num, by unfold Hid; rw [HT.out]; exact G1.out, G2⟩
        case measure => simp [intOf]; omega
    · have hkl : k = m := by omega
      subst hkl
      have HT : Hid (L.take k = L) := List.take_of_length_le (by rw [Hm.out]; exact Nat.le_refl _)
      have hO2 := hO.out
      rw [HT.out] at hO2
      obtain ⟨p3, c3, hv3, hpc, _⟩ := hO2.open
      rw [HT.out]
      cases hv3
      have HPC := hide hpc
      have HLn := hide (nums_short L)
      clear hO hO2 hpc HT
      go_wp2_with fail
      refine (refPack_any _ _ _ _ _ HPC.out (by have := HL5.out; omega) (fun t ht => by have := HLn.out t ht; omega)).mono ?_
      rintro e w3 ⟨v3, rfl, hO3, hb3⟩
      have HO3 := hide hO3
      have HB3 := hide (bel_next (bel_next HB1.out hB.out) hb3)
      have hsz : w.heap.size ≤ wr.heap.size := Nat.le_trans HB1.out.size hB.out.size
      clear hO3 hb3
      go_wp2
      go_ret
      rw [← HE.out]
      exact ⟨_, rfl, HO3.out.mono hsz, HB3.out⟩
end Go.Proofs.Ytohhlidlgibieaa

/- What 'Read' does. -/
namespace Go.Proofs.Ytohhlidlgibieaa
open Go.RowKit
set_option linter.unusedVariables false

theorem getNum_no (a : Option Addr) (n c : Nat) (l : List Int) (w : World) (hg : getNum l = none) (hA : BS w a n l) (hC : CP a n c) :
    Calls Try.prog 82 #[.slice a n c] w fun e w' => e = .returned (.tuple #[.int .u64 0, .int .i64 0, .int .i64 2]) ∧ w' = w := by
  refine (getNum_any a n c l w hA hC).mono ?_
  rintro e w1 ⟨(⟨_, rfl⟩ | ⟨x, m, h, rfl⟩), hb⟩
  · exact ⟨rfl, hb⟩
  · rw [hg] at h; cases h
theorem getNum_yes (a : Option Addr) (n c : Nat) (l : List Int) (w : World) (x : Int) (m : Nat) (hg : getNum l = some (x, m)) (hA : BS w a n l) (hC : CP a n c) :
    Calls Try.prog 82 #[.slice a n c] w fun e w' => e = .returned (.tuple #[.int .u64 x, .int .i64 (m : Int), .int .i64 0]) ∧ w' = w := by
  refine (getNum_any a n c l w hA hC).mono ?_
  rintro e w1 ⟨(⟨h, rfl⟩ | ⟨y, k, h, rfl⟩), hb⟩
  · rw [hg] at h; cases h
  · rw [hg] at h; cases h; exact ⟨rfl, hb⟩

set_option maxHeartbeats 1000000 in
theorem readNum_bad (a : Option Addr) (n c : Nat) (l : List Int) (w : World) (hr : rdNum l = none) (hA : BS w a n l) (hC : CP a n c) :
    Calls Try.prog 85 #[.slice a n c] w fun e w' => e = .returned (.tuple #[.int .i64 0, .int .i64 2]) ∧ w' = w := by
  have hn := hA.1
  have hmx := hA.2.1
  unfold maxLen at hmx
  have hby := hA.2.2.1
  rcases hg : getNum l with _ | ⟨x, m⟩
  · have HG := hide (getNum_no a n c l w hg hA hC)
    clear hA hC hr hn hmx hby hg
    go_enter Try.func85, Try.ntmps85
    go_wp2_with (go_at_call 82; refine HG.out.mono ?_; rintro e w' ⟨rfl, rfl⟩)
    go_ret2
    exact ⟨rfl, rfl⟩
  · have HG := hide (getNum_yes a n c l w x m hg hA hC)
    obtain ⟨g0, g1, g2, g3, g4, _, _⟩ := getNum_some hby hg
    by_cases hm : m = n
    · have hx : x > 1048576 := by
        unfold rdNum at hr
        rw [hg] at hr
        simp only [] at hr
        split at hr
        · cases hr
        · rename_i hh
          have : ¬ (x ≤ 1048576) := fun t => hh ⟨by omega, t⟩
          omega
      have hm1 : ((m : Int) == (n : Int)) = true := by simp; omega
      have hm2 : (m : Int) = (n : Int) := by omega
      clear hA hC hr hn hby hg hm
      go_enter Try.func85, Try.ntmps85
      go_wp2_with (go_at_call 82; refine HG.out.mono ?_; rintro e w' ⟨rfl, rfl⟩)
      go_ret2
      exact ⟨rfl, rfl⟩
    · have hm1 : ((m : Int) == (n : Int)) = false := by simp; omega
      have hm2 : ¬ (m : Int) = (n : Int) := by omega
      clear hA hC hr hn hby hg hm
      go_enter Try.func85, Try.ntmps85
      go_wp2_with (go_at_call 82; refine HG.out.mono ?_; rintro e w' ⟨rfl, rfl⟩)
      go_ret2
      exact ⟨rfl, rfl⟩
set_option maxHeartbeats 1000000 in
theorem readNum_ok (a : Option Addr) (n c : Nat) (l : List Int) (w : World) (x : Int) (hr : rdNum l = some x) (hA : BS w a n l) (hC : CP a n c) :
    Calls Try.prog 85 #[.slice a n c] w fun e w' => e = .returned (.tuple #[.int .i64 x, .int .i64 0]) ∧ w' = w := by
  have hn := hA.1
  have hmx := hA.2.1
  unfold maxLen at hmx
  have hby := hA.2.2.1
  rcases hg : getNum l with _ | ⟨y, m⟩
  · unfold rdNum at hr; rw [hg] at hr; cases hr
  · obtain ⟨g0, g1, g2, g3, g4, _, _⟩ := getNum_some hby hg
    have hh : m = l.length ∧ y ≤ 1048576 ∧ y = x := by
      unfold rdNum at hr
      rw [hg] at hr
      simp only [] at hr
      split at hr
      · rename_i h; cases hr; exact ⟨h.1, h.2, rfl⟩
      · cases hr
    obtain ⟨h1, h2, rfl⟩ := hh
    have hmn : m = n := by omega
    subst hmn
    have HG := hide (getNum_yes a m c l w y m hg hA hC)
    clear hA hC hr hn hby hg h1
    go_enter Try.func85, Try.ntmps85
    go_wp2_with (go_at_call 82; refine HG.out.mono ?_; rintro e w' ⟨rfl, rfl⟩)
    go_ret2
    exact ⟨rfl, rfl⟩

theorem rdC_none {b : List Int} (h : unpack b 5 = none) : rdC b = none := by unfold rdC; rw [h]
theorem rdC_bad {b : List Int} {ts : List (List Int)} {m : Nat} (h : unpack b 5 = some (ts, m)) (h2 : rdAll ts = none) : rdC b = none := by unfold rdC; rw [h]; simp only [h2]
theorem rdC_nought {b : List Int} {ts : List (List Int)} {m : Nat} {c : List Int} (h : unpack b 5 = some (ts, m)) (h2 : rdAll ts = some c) (h3 : ¬ pln c = c) : rdC b = none := by unfold rdC; rw [h]; simp only [h2]; rw [if_neg h3]
theorem rdC_ok {b : List Int} {ts : List (List Int)} {m : Nat} {c : List Int} (h : unpack b 5 = some (ts, m)) (h2 : rdAll ts = some c) (h3 : pln c = c) : rdC b = some (c, m) := by unfold rdC; rw [h]; simp only [h2]; rw [if_pos h3]

theorem unpackC_no (a : Option Addr) (n c : Nat) (l : List Int) (w : World) (hu : unpack l 5 = none) (hA : BS w a n l) (hC : CP a n c) :
    Calls Try.prog 59 #[.slice a n c, .int .i64 5] w fun e w' => e = .returned (.tuple #[.slice none 0 0, .int .i64 0, .int .i64 2]) ∧ Below w.heap.size w w' := by
  refine (unpack_any a n c l 5 w hA hC (by omega) (by omega)).mono ?_
  rintro e w1 ⟨(⟨_, rfl⟩ | ⟨qs, m, v, h, _⟩), hb⟩
  · exact ⟨rfl, hb⟩
  · rw [hu] at h; cases h
theorem unpackC_yes (a : Option Addr) (n c : Nat) (l : List Int) (w : World) (ts : List (List Int)) (m : Nat) (hu : unpack l 5 = some (ts, m)) (hA : BS w a n l) (hC : CP a n c) :
    Calls Try.prog 59 #[.slice a n c, .int .i64 5] w fun e w' => ∃ p cp, e = .returned (.tuple #[.slice p ts.length cp, .int .i64 (m : Int), .int .i64 0]) ∧ PC w' p ts.length ts ∧ Below w.heap.size w w' := by
  refine (unpack_any a n c l 5 w hA hC (by omega) (by omega)).mono ?_
  rintro e w1 ⟨(⟨h, _⟩ | ⟨qs, k, v, h, rfl, hO⟩), hb⟩
  · rw [hu] at h; cases h
  · rw [hu] at h
    simp only [Option.some.injEq, Prod.mk.injEq] at h
    obtain ⟨rfl, rfl⟩ := h
    obtain ⟨p, cp, rfl, hpc, _⟩ := hO.open
    exact ⟨p, cp, by simp, by simpa using hpc, hb⟩

set_option maxHeartbeats 4000000 in
theorem Read_any (a : Option Addr) (n cap : Nat) (l : List Int) (w : World) (hA : BS w a n l) (hC : CP a n cap) :
    Calls Try.prog 61 #[.slice a n cap] w fun e w' => ((rdC l = none ∧ e = .returned (.tuple #[.slice none 0 0, .int .i64 0, .int .i64 2])) ∨ ∃ (c : List Int) (m : Nat) (v : Value), rdC l = some (c, m) ∧ e = .returned (.tuple #[v, .int .i64 (m : Int), .int .i64 0]) ∧ OwnN w.heap.size w' v c) ∧ Below w.heap.size w w' := by
  rcases hu : unpack l 5 with _ | ⟨ts, m⟩
  · have HU := hide (unpackC_no a n cap l w hu hA hC)
    have HE := hide (rdC_none hu)
    clear hA hC hu
    go_enter Try.func61, Try.ntmps61
    go_wp2_with (go_at_call 59; refine HU.out.mono ?_; rintro e w1 ⟨rfl, hb⟩; have HB := hide hb; clear hb)
    go_ret3
    exact ⟨.inl ⟨HE.out, rfl⟩, HB.out⟩
  · have HU := hide (unpackC_yes a n cap l w ts m hu hA hC)
    have h5 := unpack_le hA.2.2.1 hu
    have HUn := hide hu
    clear hA hC hu
    obtain ⟨t, ht⟩ : ∃ t, t = ts.length := ⟨_, rfl⟩
    rw [← ht] at HU h5
    have Ht := hide ht
    clear ht
    have h5' : t ≤ 5 := by omega
    go_enter Try.func61, Try.ntmps61
    go_wp2_with (go_at_call 59; refine HU.out.mono ?_; rintro e w1 ⟨p, cp, rfl, hpc, hb⟩; have HB := hide hb; have HPC := hide hpc; clear hb hpc; refine Stop.at ?_)
    unfold Stop
    clear HU
    go_wp2
    go_loopw [8, 23] (fun v i wr => ∃ (k : Nat) (acc : List Int), k ≤ t ∧ i = .int .i64 k ∧ Hid (acc.length = k) ∧ Hid (OwnN w1.heap.size wr v acc) ∧ Hid (rdAll ts = (rdAll (ts.drop k)).map (acc ++ ·)) ∧ Hid (Below w1.heap.size w1 wr)) (fun _ i _ => t - (intOf i).toNat)
    case atStart => exact ⟨0, [], by omega, rfl, rfl, OwnN.nil _ _, by unfold Hid; simp, Below.refl _ _⟩
    case round =>
      obtain ⟨k, acc, hk, rfl, hal, hO, hR, hB⟩ := hrel
      obtain ⟨pv, cv, hv, hns, _⟩ := hO.out.open
      subst hv
      have HNS := hide hns
      clear hns
      by_cases hlt : k < t
      · rcases HPC.out.2.2 with h0 | ⟨b, off, rfl, hc⟩
        · omega
        · obtain ⟨x, len, cpx, hcell, hbs, hcp⟩ := hc k hlt
          have hck := ((Ext.refl w1).below hB.out) _ _ hcell
          have HBS := hide (hbs.below hB.out)
          have HCP := hide hcp
          clear hc hcell hbs hcp
          have hsz := hB.out.size
          rcases hq : rdNum (ts.getD k []) with _ | y
          · have HE := hide (rdC_bad HUn.out (rdAll_bad (by rw [← Ht.out]; exact hlt) hR.out hq))
            have HRN := hide (readNum_bad x len cpx _ _ hq HBS.out HCP.out)
            clear hR hq HBS HCP
            go_wp2_with (go_at_call 85; refine HRN.out.mono ?_; rintro e w' ⟨rfl, rfl⟩)
            go_ret3
            exact ⟨.inl ⟨HE.out, rfl⟩, bel_next HB.out hB.out⟩
          · have HR2 := hide (rdAll_step (by rw [← Ht.out]; exact hlt) hR.out hq)
            have HRN := hide (readNum_ok x len cpx _ _ y hq HBS.out HCP.out)
            clear hR hq HBS HCP
            go_wp2_with (first
              | (go_at_call 85; refine HRN.out.mono ?_; rintro e w' ⟨rfl, rfl⟩)
              | (at_builtin; refine Stop.at ?_))
            unfold Stop
            refine append_one rfl _ _ rfl w1.heap.size (.slice pv acc.length cv) acc y _ rfl rfl hO.out rfl (by have := hal.out; omega) hsz ?_
            intro v' w' g1 g2
            have G1 := hide g1
            have G2 := hide (g2 _ hB.out)
            clear g1 g2 hO hB
            go_wp2
            go_roundw
            case rel => exact ⟨k + 1, acc ++ [y], by omega, by go_num, by unfold Hid; simp [hal.out], G1, HR2, G2⟩
            case measure => simp [intOf]; omega
      · have hkl : k = t := by omega
        subst hkl
        have hall : rdAll ts = some acc := by
          have h := hR.out
          rw [List.drop_of_length_le (by rw [Ht.out]; exact Nat.le_refl _)] at h
          simpa [rdAll] using h
        have HALL := hide hall
        have HBT := hide (bel_next HB.out hB.out)
        have hsz : w.heap.size ≤ w1.heap.size := HB.out.size
        clear hR hall
        by_cases hz : 0 < acc.length ∧ acc.getD (acc.length - 1) 0 = 0
        · have HE := hide (rdC_nought HUn.out HALL.out (fun h => (pln_iff acc).1 h hz))
          obtain ⟨z1, z2⟩ := hz
          rcases HNS.out.2.2 with h0 | ⟨b, off, rfl, hc⟩
          · omega
          · have hck := hc (acc.length - 1) (by omega)
            rw [z2] at hck
            have hI : (acc.length : Int) > 0 := by omega
            have hI2 : (acc.length : Int) ≤ 5 := by have := hal.out; omega
            obtain ⟨q, hq⟩ : ∃ q, acc.length = q + 1 := ⟨acc.length - 1, by omega⟩
            rw [hq] at hck hI hI2 ⊢
            have hq1 : (((q + 1 : Nat) : Int) - 1) = q := by omega
            simp only [Nat.add_sub_cancel] at hck
            have hal2 := hal.out
            clear hc z2 z1 hO
            go_wp2
            go_ret3
            exact ⟨.inl ⟨HE.out, rfl⟩, HBT.out⟩
        · have HE := hide (rdC_ok HUn.out HALL.out ((pln_iff acc).2 hz))
          by_cases z1 : 0 < acc.length
          · have z2 : ¬ acc.getD (acc.length - 1) 0 = 0 := fun h => hz ⟨z1, h⟩
            rcases HNS.out.2.2 with h0 | ⟨b, off, rfl, hc⟩
            · omega
            · have hck := hc (acc.length - 1) (by omega)
              generalize hgd : acc.getD (acc.length - 1) 0 = z at *
              have hI : (acc.length : Int) > 0 := by omega
              have hI2 : (acc.length : Int) ≤ 5 := by have := hal.out; omega
              have HO := hide (hO.out.mono hsz)
              obtain ⟨q, hq⟩ : ∃ q, acc.length = q + 1 := ⟨acc.length - 1, by omega⟩
              rw [hq] at hck hI hI2 HO ⊢
              have hq1 : (((q + 1 : Nat) : Int) - 1) = q := by omega
              simp only [Nat.add_sub_cancel] at hck
              have z3 : (z == 0) = false := by simpa using z2
              clear hc z1 hO hgd hz
              go_wp2
              go_ret3
              exact ⟨.inr ⟨acc, m, _, HE.out, rfl, HO.out⟩, HBT.out⟩
          · have z0 : acc.length = 0 := by omega
            have HO := hide (hO.out.mono hsz)
            rw [z0] at HO ⊢
            clear hz hO z1
            go_wp2
            go_ret3
            exact ⟨.inr ⟨acc, m, _, HE.out, rfl, HO.out⟩, HBT.out⟩
end Go.Proofs.Ytohhlidlgibieaa

/- What the document's 'Read' does. -/
namespace Go.Proofs.Ytohhlidlgibieaa
open Go.RowKit
set_option linter.unusedVariables false

theorem takeIn {P : Program} {md : Region.Mode} {ops : Array Oper} {Q : Exit → Act → World → Prop} (i d : Nat) (v : Value) {oi : Oper} {fuel : Nat} {listed : Array Bool} {a : Act} {w : World} (hi : ops[i]? = some oi) (hd : oi.dst = some d)
    (hs : Region.noSelect ops = true) (hf : Region.free md ops listed i = true) (hr : (Region.ready md ops listed).contains i = true)
    (hQ : ∀ c a w, Q (.panic c) (a.put oi.dst v) w → Q (.panic c) a w) (hw : Region.wanted oi (yielded ops a.tmps) = true) (hy : ∀ w, (execOp a.eval oi).run P w = .ok (.value v) w)
    (h : wpAny P md ops Q fuel (listed.setIfInBounds i true) (a.put (some d) v) w) : wpAny P md ops Q (fuel + 1) listed a w :=
  wpAny_take hi hs hf hr hQ (Or.inl ⟨hw, hy⟩) (by rw [hd]; exact h)
theorem takeNo {P : Program} {md : Region.Mode} {ops : Array Oper} {Q : Exit → Act → World → Prop} (i d : Nat) {oi : Oper} {fuel : Nat} {listed : Array Bool} {a : Act} {w : World} (hi : ops[i]? = some oi) (hd : oi.dst = some d)
    (hs : Region.noSelect ops = true) (hf : Region.free md ops listed i = true) (hr : (Region.ready md ops listed).contains i = true)
    (hQ : ∀ c a w, Q (.panic c) (a.put oi.dst undef) w → Q (.panic c) a w) (hw : Region.wanted oi (yielded ops a.tmps) = false)
    (h : wpAny P md ops Q fuel (listed.setIfInBounds i true) (a.put (some d) undef) w) : wpAny P md ops Q (fuel + 1) listed a w :=
  wpAny_take hi hs hf hr hQ (Or.inr ⟨hw, rfl⟩) (by rw [hd]; exact h)

theorem rgetNum_no (a : Option Addr) (n c : Nat) (l : List Int) (w : World) (hg : getNum l = none) (hA : BS w a n l) (hC : CP a n c) :
    Calls Try.prog 65 #[.slice a n c] w fun e w' => e = .returned (.tuple #[.int .u64 0, .int .i64 0]) ∧ Below w.heap.size w w' := by
  refine (refGetNum_any a n c l w hA hC).mono ?_
  rintro e w1 ⟨(⟨_, rfl⟩ | ⟨x, m, h, rfl⟩), hb⟩
  · exact ⟨rfl, hb⟩
  · rw [hg] at h; cases h
theorem rgetNum_yes (a : Option Addr) (n c : Nat) (l : List Int) (w : World) (x : Int) (m : Nat) (hg : getNum l = some (x, m)) (hA : BS w a n l) (hC : CP a n c) :
    Calls Try.prog 65 #[.slice a n c] w fun e w' => e = .returned (.tuple #[.int .u64 x, .int .i64 (m : Int)]) ∧ Below w.heap.size w w' := by
  refine (refGetNum_any a n c l w hA hC).mono ?_
  rintro e w1 ⟨(⟨h, rfl⟩ | ⟨y, k, h, rfl⟩), hb⟩
  · rw [hg] at h; cases h
  · rw [hg] at h; cases h; exact ⟨rfl, hb⟩
theorem runpack_no (a : Option Addr) (n c : Nat) (l : List Int) (w : World) (hu : unpack l 5 = none) (hA : BS w a n l) (hC : CP a n c) :
    Calls Try.prog 45 #[.slice a n c, .int .i64 5] w fun e w' => e = .returned (.tuple #[.slice none 0 0, .int .i64 0]) ∧ Below w.heap.size w w' := by
  refine (refUnpack_any a n c l 5 w hA hC (by omega) (by omega)).mono ?_
  rintro e w1 ⟨(⟨_, rfl⟩ | ⟨qs, m, v, h, _⟩), hb⟩
  · exact ⟨rfl, hb⟩
  · rw [hu] at h; cases h
theorem runpack_yes (a : Option Addr) (n c : Nat) (l : List Int) (w : World) (ts : List (List Int)) (m : Nat) (hu : unpack l 5 = some (ts, m)) (hA : BS w a n l) (hC : CP a n c) :
    Calls Try.prog 45 #[.slice a n c, .int .i64 5] w fun e w' => ∃ p cp, e = .returned (.tuple #[.slice p ts.length cp, .int .i64 (m : Int)]) ∧ PC w' p ts.length ts ∧ Below w.heap.size w w' := by
  refine (refUnpack_any a n c l 5 w hA hC (by omega) (by omega)).mono ?_
  rintro e w1 ⟨(⟨h, _⟩ | ⟨qs, k, v, h, rfl, hO⟩), hb⟩
  · rw [hu] at h; cases h
  · rw [hu] at h
    simp only [Option.some.injEq, Prod.mk.injEq] at h
    obtain ⟨rfl, rfl⟩ := h
    obtain ⟨p, cp, rfl, hpc, _⟩ := hO.open
    exact ⟨p, cp, by simp, by simpa using hpc, hb⟩

theorem rfC_none {b : List Int} (h : unpack b 5 = none) : rfC b = none := by unfold rfC; rw [h]
theorem rfC_bad {b : List Int} {ts : List (List Int)} {m : Nat} (h : unpack b 5 = some (ts, m)) (h2 : rfAll ts = none) : rfC b = none := by unfold rfC; rw [h]; simp only [h2]
theorem rfC_nought {b : List Int} {ts : List (List Int)} {m : Nat} {c : List Int} (h : unpack b 5 = some (ts, m)) (h2 : rfAll ts = some c) (h3 : ¬ putC c = b.take m) : rfC b = none := by unfold rfC; rw [h]; simp only [h2]; rw [if_neg h3]
theorem rfC_ok {b : List Int} {ts : List (List Int)} {m : Nat} {c : List Int} (h : unpack b 5 = some (ts, m)) (h2 : rfAll ts = some c) (h3 : putC c = b.take m) : rfC b = some (c, m) := by unfold rfC; rw [h]; simp only [h2]; rw [if_pos h3]
theorem putC_by (c : List Int) : By (putC c) := by
  unfold putC pack
  refine (num_by _).append (By.flat fun p hp => ?_)
  obtain ⟨x, _, rfl⟩ := List.mem_map.1 hp
  exact text_by (num_by x)

set_option maxHeartbeats 4000000 in
theorem read_ref (a : Option Addr) (n cap : Nat) (l : List Int) (w : World) (hA : BS w a n l) (hC : CP a n cap) :
    Calls Try.prog 47 #[.slice a n cap] w fun e w' => ((rfC l = none ∧ e = .returned (.tuple #[.slice none 0 0, .int .i64 0])) ∨ ∃ (c : List Int) (m : Nat) (v : Value), rfC l = some (c, m) ∧ e = .returned (.tuple #[v, .int .i64 (m : Int)]) ∧ OwnN w.heap.size w' v c) ∧ Below w.heap.size w w' := by
  rcases hu : unpack l 5 with _ | ⟨ts, m⟩
  · have HU := hide (runpack_no a n cap l w hu hA hC)
    have HE := hide (rfC_none hu)
    clear hA hC hu
    go_enter Try.func47, Try.ntmps47
    go_wp2_with (go_at_call 45; refine HU.out.mono ?_; rintro e w1 ⟨rfl, hb⟩; have HB := hide hb; clear hb; refine Stop.at ?_)
    unfold Stop
    clear HU
    go_wp2
    go_loopw [6, 7] (fun v i wr => i = .int .i64 0 ∧ Hid (Below w.heap.size w wr)) (fun _ _ _ => 0)
    case atStart => exact ⟨rfl, HB.out.alloc HB.out.size _⟩
    case round =>
      obtain ⟨rfl, hB⟩ := hrel
      clear HB
      go_wp2
      refine wp_region_any (by kernel_rfl) ?_
      change wpAny _ _ _ _ _ _ _ (World.drew _)
      refine takeIn 0 41 (.int .i64 0) rfl rfl (by kernel_rfl) (by kernel_rfl) (by kernel_rfl) (fun _ _ _ h => h) (by kernel_rfl) (by intro w; go_simp) ?_
      simp only [Act.put, List.setIfInBounds_toArray, List.set_cons_zero, List.set_cons_succ]
      refine takeIn 1 42 (.bool true) rfl rfl (by kernel_rfl) (by kernel_rfl) (by kernel_rfl) (fun _ _ _ h => h) (by kernel_rfl) (by intro w; go_simp) ?_
      simp only [Act.put, List.setIfInBounds_toArray, List.set_cons_zero, List.set_cons_succ]
      refine takeIn 2 43 (.bool true) rfl rfl (by kernel_rfl) (by kernel_rfl) (by kernel_rfl) (fun _ _ _ h => h) (by kernel_rfl) (by intro w; go_simp) ?_
      simp only [Act.put, List.setIfInBounds_toArray, List.set_cons_zero, List.set_cons_succ]
      refine takeNo 3 44 rfl rfl (by kernel_rfl) (by kernel_rfl) (by kernel_rfl) (fun _ _ _ h => h) (by kernel_rfl) ?_
      simp only [Act.put, List.setIfInBounds_toArray, List.set_cons_zero, List.set_cons_succ]
      refine takeNo 4 45 rfl rfl (by kernel_rfl) (by kernel_rfl) (by kernel_rfl) (fun _ _ _ h => h) (by kernel_rfl) ?_
      simp only [Act.put, List.setIfInBounds_toArray, List.set_cons_zero, List.set_cons_succ]
      refine takeNo 5 46 rfl rfl (by kernel_rfl) (by kernel_rfl) (by kernel_rfl) (fun _ _ _ h => h) (by kernel_rfl) ?_
      simp only [Act.put, List.setIfInBounds_toArray, List.set_cons_zero, List.set_cons_succ]
      refine takeNo 6 47 rfl rfl (by kernel_rfl) (by kernel_rfl) (by kernel_rfl) (fun _ _ _ h => h) (by kernel_rfl) ?_
      simp only [Act.put, List.setIfInBounds_toArray, List.set_cons_zero, List.set_cons_succ]
      refine takeNo 7 48 rfl rfl (by kernel_rfl) (by kernel_rfl) (by kernel_rfl) (fun _ _ _ h => h) (by kernel_rfl) ?_
      simp only [Act.put, List.setIfInBounds_toArray, List.set_cons_zero, List.set_cons_succ]
      refine takeNo 8 49 rfl rfl (by kernel_rfl) (by kernel_rfl) (by kernel_rfl) (fun _ _ _ h => h) (by kernel_rfl) ?_
      simp only [Act.put, List.setIfInBounds_toArray, List.set_cons_zero, List.set_cons_succ]
      refine takeNo 9 50 rfl rfl (by kernel_rfl) (by kernel_rfl) (by kernel_rfl) (fun _ _ _ h => h) (by kernel_rfl) ?_
      simp only [Act.put, List.setIfInBounds_toArray, List.set_cons_zero, List.set_cons_succ]
      refine takeIn 10 51 (.bool true) rfl rfl (by kernel_rfl) (by kernel_rfl) (by kernel_rfl) (fun _ _ _ h => h) (by kernel_rfl) (by intro w; go_simp) ?_
      simp only [Act.put, List.setIfInBounds_toArray, List.set_cons_zero, List.set_cons_succ]
      refine wpAny_done (by kernel_rfl) ?_ _
      go_wp2
      go_ret2
      exact ⟨.inl ⟨HE.out, rfl⟩, hB.out.drew⟩
  · have HU := hide (runpack_yes a n cap l w ts m hu hA hC)
    have h5 := unpack_le hA.2.2.1 hu
    obtain ⟨m1, m2, _, hts⟩ := unpack_some hA.2.2.1 hu
    have HUn := hide hu
    have HA := hide hA
    have hn := hA.1
    have hmc : m ≤ cap := by have := hC.1; omega
    have hmcI : (m : Int) ≤ (cap : Int) := by omega
    have hm0 : (0 : Int) ≤ (m : Int) := by omega
    have hmne : ((m : Int) == 0) = false := by simp; omega
    have hmne2 : ¬ ((m : Int) = 0) := by omega
    have hcapI : (cap : Int) ≤ 9223372036854775807 := by have := hC.2.1; unfold maxLen at this; omega
    have HHead := hide (hA.head m (by omega))
    clear hA hC hu
    obtain ⟨t, ht⟩ : ∃ t, t = ts.length := ⟨_, rfl⟩
    rw [← ht] at HU h5
    have Ht := hide ht
    clear ht
    have h5' : t ≤ 5 := by omega
    go_enter Try.func47, Try.ntmps47
    go_wp2_with (go_at_call 45; refine HU.out.mono ?_; rintro e w1 ⟨p, cp, rfl, hpc, hb⟩; have HB := hide hb; have HPC := hide hpc; clear hb hpc; refine Stop.at ?_)
    unfold Stop
    clear HU
    go_wp2
    go_loopw [6, 7] (fun v i wr => ∃ (k : Nat) (acc : List Int), k ≤ t ∧ i = .int .i64 k ∧ Hid (acc.length = k) ∧ Hid (OwnN w1.heap.size wr v acc) ∧ Hid (rfAll ts = (rfAll (ts.drop k)).map (acc ++ ·)) ∧ Hid (Below w1.heap.size w1 wr)) (fun _ i _ => t - (intOf i).toNat)
    case atStart => exact ⟨0, [], by omega, rfl, rfl, OwnN.made _ _ _ rfl (Nat.le_refl _), by unfold Hid; simp, bel1 _ _⟩
    case round =>
      obtain ⟨k, acc, hk, rfl, hal, hO, hR, hB⟩ := hrel
      obtain ⟨pv, cv, hv, hns, _⟩ := hO.out.open
      subst hv
      have HNS := hide hns
      clear hns
      by_cases hlt : k < t
      · rcases HPC.out.2.2 with h0 | ⟨b, off, rfl, hc⟩
        · omega
        · obtain ⟨x, len, cpx, hcell, hbs, hcp⟩ := hc k hlt
          have hck := ((Ext.refl w1).below hB.out) _ _ hcell
          have HBS := hide (hbs.below hB.out)
          have HCP := hide hcp
          clear hc hcell hbs hcp
          have hsz := hB.out.size
          rcases hg : getNum (ts.getD k []) with _ | ⟨y, kk⟩
          · have hq : rfNum (ts.getD k []) = none := by unfold rfNum; rw [hg]
            have HE := hide (rfC_bad HUn.out (rfAll_bad (by rw [← Ht.out]; exact hlt) hR.out hq))
            have HRN := hide (rgetNum_no x len cpx _ _ hg HBS.out HCP.out)
            clear hR hq HBS HCP hg
            go_wp2_with (go_at_call 65; refine HRN.out.mono ?_; rintro e w' ⟨rfl, hb9⟩; have HB9 := hide (bel_next hB.out hb9); clear hb9)
            go_ret2
            exact ⟨.inl ⟨HE.out, rfl⟩, bel_next HB.out HB9.out⟩
          · obtain ⟨g0, g1, g2, g3, g4, _, _⟩ := getNum_some HBS.out.2.2.1 hg
            have hkk : ((kk : Int) == 0) = false := by simp; omega
            have hkk2 : ¬ ((kk : Int) = 0) := by omega
            have HRN := hide (rgetNum_yes x len cpx _ _ y kk hg HBS.out HCP.out)
            by_cases hy : y > 1048576
            · have hq : rfNum (ts.getD k []) = none := by unfold rfNum; rw [hg]; simp only []; rw [if_neg (by omega)]
              have HE := hide (rfC_bad HUn.out (rfAll_bad (by rw [← Ht.out]; exact hlt) hR.out hq))
              clear hR hq HBS HCP hg
              go_wp2_with (go_at_call 65; refine HRN.out.mono ?_; rintro e w' ⟨rfl, hb9⟩; have HB9 := hide (bel_next hB.out hb9); clear hb9)
              go_ret2
              exact ⟨.inl ⟨HE.out, rfl⟩, bel_next HB.out HB9.out⟩
            · have hq : rfNum (ts.getD k []) = some y := by unfold rfNum; rw [hg]; simp only []; rw [if_pos (by omega)]
              have HR2 := hide (rfAll_step (by rw [← Ht.out]; exact hlt) hR.out hq)
              clear hR hq HBS HCP hg
              go_wp2_with (first
                | (go_at_call 65; refine HRN.out.mono ?_; rintro e w' ⟨rfl, hb9⟩; have HB9 := hide (bel_next hB.out hb9); have HO9 := hide (hO.out.below hb9); have hsz9 := HB9.out.size; clear hb9)
                | (at_builtin; refine Stop.at ?_))
              unfold Stop
              refine append_one rfl _ _ rfl w1.heap.size (.slice pv acc.length cv) acc y _ rfl rfl HO9.out rfl (by have := hal.out; omega) hsz9 ?_
              intro v' w' g1 g2
              have G1 := hide g1
              have G2 := hide (g2 _ HB9.out)
              clear g1 g2 hO hB HO9 HB9
              go_wp2
              go_roundw
              case rel => exact ⟨k + 1, acc ++ [y], by omega, by go_num, by unfold Hid; simp [hal.out], G1, HR2, G2⟩
              case measure => simp [intOf]; omega
      · have hkl : k = t := by omega
        subst hkl
        have hall : rfAll ts = some acc := by
          have h := hR.out
          rw [List.drop_of_length_le (by rw [Ht.out]; exact Nat.le_refl _)] at h
          simpa [rfAll] using h
        have HALL := hide hall
        have HBT := hide (bel_next HB.out hB.out)
        have hsz : w.heap.size ≤ w1.heap.size := HB.out.size
        have HNd : Hid (NS wr.drew pv acc.length acc) := HNS.out.drew
        have HHd : Hid (BS wr.drew a m (l.take m)) := (HHead.out.below HBT.out).drew
        clear hR hall
        by_cases hz : putC acc = l.take m
        · have HE := hide (rfC_ok HUn.out HALL.out hz)
          have Hd : Hid (decide (putC acc = l.take m) = true) := decide_eq_true hz
          have HOd : Hid (OwnN w1.heap.size wr.drew (.slice pv acc.length cv) acc) := hO.out.drew
          clear hz hO
          generalize acc.length = q at *
          go_wp2_with fail
          go_region_held3 (fun _ => True) (trivial) (first
            | (go_at_call 44; refine (put_ref _ _ _ acc _ HNd.out).mono ?_; rintro e w4 ⟨v4, rfl, hown, hb⟩; obtain ⟨p4, cap4, rfl, hbs, hcp⟩ := hown.open (putC_by acc); have Hbs := hide hbs; have Hb := hide hb; clear hown hbs hb)
            | (go_at_call 17; refine (bytes_as _ _ _ _ _ _ (putC acc) (l.take m) _ true Hd.out (by exact Hbs.out) (by exact HHd.out.below Hb.out)).mono ?_; rintro e w5 ⟨rfl, hb2⟩; have Hb2 := hide hb2; clear hb2))
          go_wp2
          go_ret2
          exact ⟨.inr ⟨acc, m, _, HE.out, rfl, ((HOd.out.below Hb.out).below Hb2.out).mono hsz⟩, bel_next (bel_next HBT.out.drew Hb.out) Hb2.out⟩
        · have HE := hide (rfC_nought HUn.out HALL.out hz)
          have Hd : Hid (decide (putC acc = l.take m) = false) := decide_eq_false hz
          clear hz hO
          generalize acc.length = q at *
          go_wp2_with fail
          go_region_held3 (fun _ => True) (trivial) (first
            | (go_at_call 44; refine (put_ref _ _ _ acc _ HNd.out).mono ?_; rintro e w4 ⟨v4, rfl, hown, hb⟩; obtain ⟨p4, cap4, rfl, hbs, hcp⟩ := hown.open (putC_by acc); have Hbs := hide hbs; have Hb := hide hb; clear hown hbs hb)
            | (go_at_call 17; refine (bytes_as _ _ _ _ _ _ (putC acc) (l.take m) _ false Hd.out (by exact Hbs.out) (by exact HHd.out.below Hb.out)).mono ?_; rintro e w5 ⟨rfl, hb2⟩; have Hb2 := hide hb2; clear hb2))
          go_wp2
          go_ret2
          exact ⟨.inl ⟨HE.out, rfl⟩, bel_next (bel_next HBT.out.drew Hb.out) Hb2.out⟩
end Go.Proofs.Ytohhlidlgibieaa

/- Rows of structs in memory, of however many cells each; strings as lists of bytes; effects and events in memory; boxes. -/
namespace Go.Proofs.Ytohhlidlgibieaa
open Go.RowKit
set_option linter.unusedVariables false

section
variable {α : Type}
theorem flatR_len (enc : α → List Value) (k : Nat) (hk : ∀ x, (enc x).length = k) : ∀ l : List α, (l.flatMap enc).length = l.length * k
  | [] => by simp
  | x :: r => by rw [List.flatMap_cons, List.length_append, hk, flatR_len enc k hk r, List.length_cons, Nat.succ_mul]; omega
theorem flatR_get (enc : α → List Value) (k : Nat) (hk : ∀ x, (enc x).length = k) : ∀ (l : List α) (i : Nat) (x : α) (j : Nat) (v : Value), l[i]? = some x → (enc x)[j]? = some v → (l.flatMap enc)[i * k + j]? = some v
  | [], i, x, j, v, h, _ => by simp at h
  | y :: r, 0, x, j, v, h, hj => by
    simp at h
    subst h
    have hl : j < (enc y).length := by
      rcases Nat.lt_or_ge j (enc y).length with h | h
      · exact h
      · rw [List.getElem?_eq_none h] at hj; cases hj
    rw [List.flatMap_cons, Nat.zero_mul, Nat.zero_add, List.getElem?_append_left hl]
    exact hj
  | y :: r, i + 1, x, j, v, h, hj => by
    have ih := flatR_get enc k hk r i x j v (by simpa using h) hj
    rw [List.flatMap_cons, List.getElem?_append_right (by rw [hk, Nat.succ_mul]; omega), hk, show (i + 1) * k + j - k = i * k + j by rw [Nat.succ_mul]; omega]
    exact ih
theorem flatR_one (enc : α → List Value) (h1 : ∀ x, ∀ v ∈ enc x, v.oneCell' = true) (l : List α) : ∀ v ∈ l.flatMap enc, v.oneCell' = true := by
  intro v hv
  obtain ⟨x, _, hx⟩ := List.mem_flatMap.1 hv
  exact h1 x v hx
theorem flatR_lt {k n i j : Nat} (hi : i < n) (hj : j < k) : i * k + j < n * k := by
  have : (i + 1) * k ≤ n * k := Nat.mul_le_mul_right k hi
  rw [Nat.succ_mul] at this
  omega

/-- A slice's structs. -/
def RS (enc : α → List Value) (k : Nat) (w : World) (a : Option Addr) (n : Nat) (l : List α) : Prop :=
  l.length = n ∧ n ≤ maxLen ∧ (n = 0 ∨ ∃ b off, a = some ⟨b, off, none⟩ ∧ ∀ i x, l[i]? = some x → ∀ j v, (enc x)[j]? = some v → w.cell? ⟨b, off + i * k + j, none⟩ = some v)
/-- Those of the call's own. -/
def OwnR (enc : α → List Value) (k : Nat) (T : TypeId) (N : Nat) (w : World) (v : Value) (l : List α) : Prop := w.ownsRow N T k v l.length (l.flatMap enc)
variable {enc : α → List Value} {k : Nat} {T : TypeId}
theorem RS.ext {w w' : World} {a : Option Addr} {n : Nat} {l : List α} (h : RS enc k w a n l) (hx : Ext w w') : RS enc k w' a n l := by
  obtain ⟨h1, h2, h4⟩ := h
  refine ⟨h1, h2, ?_⟩
  rcases h4 with h0 | ⟨b, off, ha, hc⟩
  · exact .inl h0
  · exact .inr ⟨b, off, ha, fun i x hi j v hj => hx _ _ (hc i x hi j v hj)⟩
theorem RS.below {w w' : World} {a : Option Addr} {n : Nat} {l : List α} (h : RS enc k w a n l) (hb : Below w.heap.size w w') : RS enc k w' a n l := h.ext ((Ext.refl w).below hb)
theorem RS.alloc {w : World} {a : Option Addr} {n : Nat} {l : List α} (h : RS enc k w a n l) (o : Obj) : RS enc k (w.alloc o) a n l := h.ext ((Ext.refl w).alloc o)
theorem RS.nil (w : World) (p : Option Addr) : RS enc k w p 0 [] := ⟨rfl, by decide, .inl rfl⟩
theorem RS.new (hk : ∀ x, (enc x).length = k) (w : World) (g : Nat) (hg : g = w.heap.size) (l : List α) (C : Array Value) (hC : C = (l.flatMap enc).toArray) (t : TypeId) (fr : Nat × Nat) (n : Nat) (hn : l.length = n) (hmax : n ≤ maxLen) :
    RS enc k (w.alloc (.cells C t fr)) (some ⟨g, 0, none⟩) n l := by
  subst hg hC hn
  refine ⟨rfl, hmax, .inr ⟨_, 0, rfl, fun i x hi j v hj => ?_⟩⟩
  have h := flatR_get enc k hk l i x j v hi hj
  rw [World.cell?_alloc_mark, Nat.zero_add]
  simpa using h
theorem RS.mid {w : World} {b off : Nat} {n : Nat} {l : List α} (h : RS enc k w (some ⟨b, off, none⟩) n l) (i : Nat) (hi : i ≤ n) : RS enc k w (some ⟨b, off + i * k, none⟩) (n - i) (l.drop i) := by
  obtain ⟨h1, h2, h4⟩ := h
  refine ⟨by rw [List.length_drop]; omega, by omega, ?_⟩
  rcases h4 with h0 | ⟨b', off', ha, hc⟩
  · exact .inl (by omega)
  · cases ha
    refine .inr ⟨b, off + i * k, rfl, fun i' x hi' j v hj => ?_⟩
    rw [List.getElem?_drop] at hi'
    have := hc (i + i') x hi' j v hj
    rw [Nat.add_mul] at this
    rw [show off + i * k + i' * k + j = off + (i * k + i' * k) + j by omega]
    exact this
theorem OwnR.mono {N N' : Nat} {w : World} {v : Value} {l : List α} (h : OwnR enc k T N w v l) (hN : N' ≤ N) : OwnR enc k T N' w v l := ⟨h.1, h.2.imp id fun ⟨g, cap, cur, h1, h2, h3⟩ => ⟨g, cap, cur, h1, Nat.le_trans hN h2, h3⟩⟩
theorem OwnR.alloc {N : Nat} {w : World} {v : Value} {l : List α} (h : OwnR enc k T N w v l) (o : Obj) : OwnR enc k T N (w.alloc o) v l := World.ownsRow.alloc h o
theorem OwnR.drew {N : Nat} {w : World} {v : Value} {l : List α} (h : OwnR enc k T N w v l) : OwnR enc k T N w.drew v l := World.ownsRow.drew h
theorem OwnR.below {N : Nat} {w w' : World} {v : Value} {l : List α} (h : OwnR enc k T N w v l) (hb : Below w.heap.size w w') : OwnR enc k T N w' v l := by
  refine ⟨h.1, ?_⟩
  rcases h.2 with hn | ⟨g, cap, cur, rfl, hb', hgg, rest⟩
  · exact .inl hn
  · refine .inr ⟨g, cap, cur, rfl, hb', ?_, rest⟩
    rw [hb.block g (Array.getElem?_eq_some_iff.1 hgg).1]
    exact hgg
theorem OwnR.nil (N : Nat) (w : World) : OwnR enc k T N w (.slice none 0 0) [] := ⟨by simp, .inl ⟨rfl, rfl⟩⟩
theorem OwnR.open (hk : ∀ x, (enc x).length = k) {N : Nat} {w : World} {v : Value} {l : List α} (h : OwnR enc k T N w v l) : ∃ p cap, v = .slice p l.length cap ∧ RS enc k w p l.length l ∧ CP p l.length cap := by
  have h0 := h
  obtain ⟨_, h2⟩ := h
  rcases h2 with ⟨rfl, h2⟩ | ⟨g, cap, cur, rfl, hb, hg, hc1, hc2, hs, ht⟩
  · exact ⟨none, 0, by rw [h2], ⟨rfl, by rw [h2]; decide, .inl h2⟩, by omega, by decide, fun _ => rfl⟩
  · refine ⟨some ⟨g, 0, none⟩, cap, rfl, ⟨rfl, by omega, .inr ⟨g, 0, rfl, fun i x hi j u hj => ?_⟩⟩, hc1, hc2, fun h => by cases h⟩
    have hil : i < l.length := (List.getElem?_eq_some_iff.1 hi).1
    have hjl : j < k := by rw [← hk x]; exact (List.getElem?_eq_some_iff.1 hj).1
    rw [Nat.zero_add, World.ownsRow.cellAt h0 (i * k + j) (flatR_lt hil hjl)]
    exact flatR_get enc k hk l i x j u hi hj
theorem OwnR.made (w : World) (N g : Nat) (hg : g = w.heap.size) (hN : N ≤ w.heap.size) : OwnR enc k T N (w.alloc (.cells #[] T)) (.slice (some ⟨g, 0, none⟩) 0 0) [] := by
  subst hg; exact World.ownsRow_made w #[] 0 hN (by decide) (by simp)
theorem RS.cells {w : World} {b off : Nat} {n : Nat} {l : List α} (h : RS enc k w (some ⟨b, off, none⟩) n l) (j : Nat) (u : Value) (hj : (l.flatMap enc)[j]? = some u) (hk : ∀ x, (enc x).length = k) (hk0 : 0 < k) : w.cell? ⟨b, off + j, none⟩ = some u := by
  have hjl : j < l.length * k := by rw [← flatR_len enc k hk l]; exact (List.getElem?_eq_some_iff.1 hj).1
  have hi : j / k < l.length := Nat.div_lt_of_lt_mul (by rw [Nat.mul_comm]; exact hjl)
  have hm : j % k < k := Nat.mod_lt _ hk0
  have e : j / k * k + j % k = j := by rw [Nat.mul_comm]; exact Nat.div_add_mod j k
  rcases h.2.2 with h0 | ⟨b', off', ha, hc⟩
  · rw [h.1, h0] at hi; exact absurd hi (Nat.not_lt_zero _)
  · cases ha
    have hx : l[j / k]? = some l[j / k] := List.getElem?_eq_getElem hi
    have hy : (enc l[j / k])[j % k]? = some ((enc l[j / k])[j % k]'(by rw [hk]; exact hm)) := List.getElem?_eq_getElem _
    have q := flatR_get enc k hk l _ _ _ _ hx hy
    rw [e, hj] at q
    cases q
    have := hc _ _ hx _ _ hy
    rw [Nat.add_assoc, e] at this
    exact this
/-- 'append(v, x...)', 'v' the call's own. -/
theorem append_rows {w : World} {ops : Array Oper} {rest : List Oper} {o : Oper} {a : Act} {Q : Exit → Act → World → Prop} (hgd : o.guard = none) (s x : Operand) (t : TypeId)
    (ho : o.op = .call { callee := .builtin .append, args := #[s, x], argTypes := #[t, t] })
    (ht : Try.prog.underlying t = some (.slice T)) {z : Value} {by_ : Nat} (hi : (Try.prog.info? T).map (fun i => (i.zero, i.size, i.bytes)) = some (some z, k, by_)) (hz : z.cells.size = k) (hk0 : 0 < k) (hby : by_ ≤ 1000)
    (hk : ∀ x, (enc x).length = k) (h1 : ∀ x, ∀ v ∈ enc x, v.oneCell' = true)
    (N : Nat) (v : Value) (l m : List α) (hs : a.eval s = v) (hown : OwnR enc k T N w v l) (p : Option Addr) (len cap : Nat) (hx : a.eval x = .slice p len cap) (hp : p = none → cap = 0) (hB : RS enc k w p len m)
    (hbig : l.length + m.length ≤ 1000000) (hN : N ≤ w.heap.size)
    (h : ∀ v' w', OwnR enc k T N w' v' (l ++ m) → w.grownBy w' v.ownBlock → (∀ w0, Below N w0 w → Below N w0 w') → wpList Try.prog ops Q rest (a.put o.dst v') w') : wpList Try.prog ops Q (o :: rest) a w := by
  obtain ⟨i0, hi, hz0, hz1, hz2⟩ := info_parts hi
  have g1 := hB.1
  rcases p with _ | ad
  · have hc := hp rfl
    have hl0 : len = 0 := by
      rcases hB.2.2 with h0 | ⟨b, off, hh, _⟩
      · exact h0
      · cases hh
    subst hc hl0
    obtain rfl : m = [] := List.eq_nil_of_length_eq_zero g1
    refine wpList_append_own_none hgd s x _ ho N T i0 k ht hi v _ _ hs hown hx ?_
    refine h v w (by rw [List.append_nil]; exact hown) ⟨rfl, rfl, rfl, Nat.le_refl _, fun _ _ _ => rfl⟩ (fun _ h => h)
  · have hmul : (l.length + len) * by_ ≤ 1000000 * 1000 := Nat.mul_le_mul (by omega) hby
    refine wpList_append_own w hgd s x t ho N T i0 z k by_ ht hi hz0 hz1 hz2 hz hk0 v _ _ hs hown ad len cap (m.flatMap enc) hx (by rw [flatR_len enc k hk, g1]) ?_ (flatR_one enc h1 m) (by rw [← g1]; unfold maxLen; omega) (by omega) hN ?_
    · intro j u hj
      have hjl : j < m.length * k := by rw [← flatR_len enc k hk m]; exact (List.getElem?_eq_some_iff.1 hj).1
      rcases hB.2.2 with h0 | ⟨b, off, hh, hc⟩
      · rw [g1, h0] at hjl; omega
      · cases hh
        have h3 : (⟨b, off, none⟩ : Addr).add j = ⟨b, off + j, none⟩ := by
          by_cases hj0 : j = 0
          · subst hj0; simp [Addr.add]
          · simp [Addr.add, hj0]
        rw [h3]
        exact hB.cells j u hj hk hk0
    · intro v' w' h1 h2 _
      refine h v' w' ?_ h2 (fun w0 hb => hb.grown h2 hN (fun j hj => (World.ownsRow.lt hown j hj).1))
      have e : l.length + len = (l ++ m).length := by rw [List.length_append, g1]
      rw [e, ← List.flatMap_append] at h1
      exact h1
end

/-! Strings -/
theorem str_size (l : List Int) : (strOfNums l).size = l.length := strOfNums_size l
/-- A string's bytes. -/
def bytesL (s : ByteArray) : List Int := s.data.toList.map fun b => (b.toNat : Int)
theorem bytesL_by (s : ByteArray) : By (bytesL s) := by
  intro n hn
  obtain ⟨b, _, rfl⟩ := List.mem_map.1 hn
  have := b.toNat_lt
  omega
theorem str_bytes (s : ByteArray) : strOfNums (bytesL s) = s := by
  obtain ⟨⟨d⟩⟩ := s
  simp [strOfNums, bytesL]
  apply List.ext_getElem
  · simp
  · intro i h1 h2; simp
theorem bytes_str {l : List Int} (h : By l) : bytesL (strOfNums l) = l := by
  simp only [bytesL, strOfNums_data, List.map_map]
  apply List.ext_getElem
  · simp
  · intro i h1 h2
    simp
    have := h _ (List.getElem_mem (l := l) (n := i) (by simpa using h2))
    rw [Int.emod_eq_of_lt] <;> omega
theorem str_inj {l m : List Int} (h : By l) (k : By m) (e : strOfNums l = strOfNums m) : l = m := by rw [← bytes_str h, ← bytes_str k, e]
theorem str_toList (l m : List Int) (h : By l) (k : By m) : ((strOfNums l).toList == (strOfNums m).toList) = decide (l = m) := by
  rw [Bool.eq_iff_iff, decide_eq_true_iff, beq_iff_eq]
  constructor
  · intro e
    apply str_inj h k
    have e2 : (strOfNums l).data.toList = (strOfNums m).data.toList := by rw [ByteArray.toList_eq, ByteArray.toList_eq] at e; exact e
    simpa [strOfNums] using e2
  · intro e; rw [e]

/-! Effects -/
def encF (x : Eff) : List Value := [.int .i64 x.1, .int .i64 x.2.1, .string (strOfNums x.2.2.1), .int .i64 x.2.2.2.1, .int .i64 x.2.2.2.2.1, .string (strOfNums x.2.2.2.2.2)]
theorem encF_len (x : Eff) : (encF x).length = 6 := rfl
theorem encF_one (x : Eff) : ∀ v ∈ encF x, v.oneCell' = true := by
  intro v hv
  simp only [encF, List.mem_cons, List.not_mem_nil, or_false] at hv
  rcases hv with rfl | rfl | rfl | rfl | rfl | rfl <;> rfl
/-- A slice's effects. -/
def ES (w : World) (a : Option Addr) (n : Nat) (l : List Eff) : Prop := RS encF 6 w a n l ∧ ∀ x ∈ l, ByF x
theorem ES.below {w w' : World} {a : Option Addr} {n : Nat} {l : List Eff} (h : ES w a n l) (hb : Below w.heap.size w w') : ES w' a n l := ⟨h.1.below hb, h.2⟩
theorem ES.alloc {w : World} {a : Option Addr} {n : Nat} {l : List Eff} (h : ES w a n l) (o : Obj) : ES (w.alloc o) a n l := ⟨h.1.alloc o, h.2⟩
theorem ES.nil (w : World) (p : Option Addr) : ES w p 0 [] := ⟨RS.nil w p, fun x hx => by cases hx⟩
theorem ES.at {w : World} {b off n : Nat} {l : List Eff} (h : ES w (some ⟨b, off, none⟩) n l) (i : Nat) (x : Eff) (hi : l[i]? = some x) :
    w.cell? ⟨b, off + i * 6, none⟩ = some (.int .i64 x.1) ∧ w.cell? ⟨b, off + i * 6 + 1, none⟩ = some (.int .i64 x.2.1) ∧ w.cell? ⟨b, off + i * 6 + 2, none⟩ = some (.string (strOfNums x.2.2.1)) ∧ w.cell? ⟨b, off + i * 6 + 3, none⟩ = some (.int .i64 x.2.2.2.1) ∧ w.cell? ⟨b, off + i * 6 + 4, none⟩ = some (.int .i64 x.2.2.2.2.1) ∧ w.cell? ⟨b, off + i * 6 + 5, none⟩ = some (.string (strOfNums x.2.2.2.2.2)) := by
  rcases h.1.2.2 with h0 | ⟨b', off', ha, hc⟩
  · have := (List.getElem?_eq_some_iff.1 hi).1
    have := h.1.1
    omega
  · cases ha
    exact ⟨hc i x hi 0 _ rfl, hc i x hi 1 _ rfl, hc i x hi 2 _ rfl, hc i x hi 3 _ rfl, hc i x hi 4 _ rfl, hc i x hi 5 _ rfl⟩
theorem Try.infoEff : (Try.prog.info? 35).map (fun i => (i.zero, i.size, i.bytes)) = some (some (.agg #[.int .i64 0, .int .i64 0, .string ⟨#[]⟩, .int .i64 0, .int .i64 0, .string ⟨#[]⟩]), 6, 64) := by kernel_rfl

/-! Boxes -/
/-- A block of cells that may be written. -/
def BX (u : World) (g : Nat) (C : Array Value) (t : TypeId) : Prop := u.heap[g]? = some (.cells C t (0, 0))
theorem BX.below {u W : World} {g : Nat} {C : Array Value} {t : TypeId} (h : BX u g C t) (hb : Below u.heap.size u W) : BX W g C t := by
  unfold BX; rw [hb.block _ (Array.getElem?_eq_some_iff.1 h).1]; exact h
theorem BX.alloc {u : World} {g : Nat} {C : Array Value} {t : TypeId} (h : BX u g C t) (o : Obj) : BX (u.alloc o) g C t := h.below (bel1 u o)
theorem BX.new (u : World) (g : Nat) (hg : g = u.heap.size) (C : Array Value) (t : TypeId) : BX (u.alloc (.cells C t)) g C t := by subst hg; exact heap_alloc_new u _
theorem BX.size {u : World} {g : Nat} {C : Array Value} {t : TypeId} (h : BX u g C t) : g < u.heap.size := (Array.getElem?_eq_some_iff.1 h).1
theorem BX.cell {u : World} {g : Nat} {C : Array Value} {t : TypeId} (h : BX u g C t) (i : Nat) (v : Value) (hi : C[i]? = some v) : u.cell? ⟨g, i, none⟩ = some v := by
  rw [cell_of_row u _ _ _ _ _ h]; exact hi
theorem BX.free {u : World} {g : Nat} {C : Array Value} {t : TypeId} (h : BX u g C t) (i : Nat) : u.frozen? ⟨g, i, none⟩ = false := by
  unfold BX at h; simp [World.frozen?, h]
theorem BX.set {u : World} {g : Nat} {C : Array Value} {t : TypeId} (h : BX u g C t) (i : Nat) (v : Value) : BX (u.setCell ⟨g, i, none⟩ v) g (C.setIfInBounds i v) t := (set1 h (Below.refl g u) (Nat.le_refl _) i v).1
end Go.Proofs.Ytohhlidlgibieaa

/- Which effects may be: the program's and the document's answer. -/
namespace Go.Proofs.Ytohhlidlgibieaa
open Go.RowKit
set_option linter.unusedVariables false

def mayS (k o n t : Int) (kl wl : Nat) : Bool := decide (1 ≤ kl ∧ kl ≤ 32 ∧ 0 ≤ o ∧ o ≤ 15) && fits k n t wl
theorem mayS_iff {k o n t : Int} {kl wl : Nat} : mayS k o n t kl wl = true ↔ (1 ≤ kl ∧ kl ≤ 32 ∧ 0 ≤ o ∧ o ≤ 15) ∧ fits k n t wl = true := by simp [mayS]
theorem mayF_S (x : Eff) : mayF x = mayS x.1 x.2.1 x.2.2.2.1 x.2.2.2.2.1 (strOfNums x.2.2.1).size (strOfNums x.2.2.2.2.2).size := by rw [str_size, str_size]; rfl
theorem toList_length (s : ByteArray) : s.toList.length = s.size := by
  rw [ByteArray.toList_eq]; rfl
theorem isE (s : ByteArray) : s.toList.isEmpty = decide (s.size = 0) := by
  rw [Bool.eq_iff_iff, decide_eq_true_iff, List.isEmpty_iff_length_eq_zero, toList_length]
theorem fits_no {k n t : Int} {wl : Nat} {f : Bool} (hf : fits k n t wl = f) (h : ¬ (((k = 1 ∨ k = 2) ∧ n = 0 ∧ t = 0 ∧ wl = 0) ∨ ((k = 3 ∨ k = 4) ∧ 1 ≤ n ∧ n ≤ 1000 ∧ t = 0 ∧ wl = 0) ∨ (k = 5 ∧ 1 ≤ n ∧ n ≤ 1000 ∧ 1 ≤ t ∧ t ≤ 5 ∧ wl = 0) ∨ (k = 6 ∧ n = 0 ∧ t = 0 ∧ wl ≤ 64))) : false = f := by
  rw [← hf]; symm; rw [← Bool.not_eq_true, fits_iff]; exact h
theorem fits_if {k n t : Int} {wl : Nat} {f b : Bool} {p : Prop} [Decidable p] (hf : fits k n t wl = f) (hb : b = decide p) (h : p ↔ (((k = 1 ∨ k = 2) ∧ n = 0 ∧ t = 0 ∧ wl = 0) ∨ ((k = 3 ∨ k = 4) ∧ 1 ≤ n ∧ n ≤ 1000 ∧ t = 0 ∧ wl = 0) ∨ (k = 5 ∧ 1 ≤ n ∧ n ≤ 1000 ∧ 1 ≤ t ∧ t ≤ 5 ∧ wl = 0) ∨ (k = 6 ∧ n = 0 ∧ t = 0 ∧ wl ≤ 64))) : b = f := by
  rw [← hf, hb, Bool.eq_iff_iff, decide_eq_true_iff, fits_iff]; exact h
/-- An effect's box. -/
abbrev bxF (k o n t : Int) (sk sw : ByteArray) : Obj := .cells #[.int .i64 k, .int .i64 o, .string sk, .int .i64 n, .int .i64 t, .string sw] 35

set_option maxHeartbeats 1000000 in
theorem fitsKind_any (k o n t : Int) (sk sw : ByteArray) (f : Bool) (hf : fits k n t sw.size = f) (w : World) :
    Calls Try.prog 25 #[.agg #[.int .i64 k, .int .i64 o, .string sk, .int .i64 n, .int .i64 t, .string sw]] w fun e w' => e = .returned (.bool f) ∧ Gr w w' := by
  have HF := hide hf
  clear hf
  by_cases h1 : k = 1
  · subst h1
    go_enter Try.func25, Try.ntmps25
    go_wp2 <;> go_ret <;> (refine ⟨retB ?_, (Gr.refl w).alloc _⟩) <;> first | exact fits_no HF.out (by omega) | exact fits_if HF.out (isE sw) (by omega)
  · by_cases h2 : k = 2
    · subst h2
      go_enter Try.func25, Try.ntmps25
      go_wp2 <;> go_ret <;> (refine ⟨retB ?_, (Gr.refl w).alloc _⟩) <;> first | exact fits_no HF.out (by omega) | exact fits_if HF.out (isE sw) (by omega)
    · by_cases h3 : k = 3
      · subst h3
        go_enter Try.func25, Try.ntmps25
        go_wp2 <;> go_ret <;> (refine ⟨retB ?_, (Gr.refl w).alloc _⟩) <;> first | exact fits_no HF.out (by omega) | exact fits_if HF.out (isE sw) (by omega)
      · by_cases h4 : k = 4
        · subst h4
          go_enter Try.func25, Try.ntmps25
          go_wp2 <;> go_ret <;> (refine ⟨retB ?_, (Gr.refl w).alloc _⟩) <;> first | exact fits_no HF.out (by omega) | exact fits_if HF.out (isE sw) (by omega)
        · by_cases h5 : k = 5
          · subst h5
            go_enter Try.func25, Try.ntmps25
            go_wp2 <;> go_ret <;> (refine ⟨retB ?_, (Gr.refl w).alloc _⟩) <;> first | exact fits_no HF.out (by omega) | exact fits_if HF.out (isE sw) (by omega)
          · by_cases h6 : k = 6
            · subst h6
              go_enter Try.func25, Try.ntmps25
              go_wp2 <;> go_ret <;> (refine ⟨retB ?_, (Gr.refl w).alloc _⟩) <;> first | exact fits_no HF.out (by omega) | exact fits_if (p := (sw.size : Int) ≤ 64) HF.out (by simp) (by omega)
            · go_enter Try.func25, Try.ntmps25
              go_wp2 <;> go_ret <;> (refine ⟨retB ?_, (Gr.refl w).alloc _⟩) <;> exact fits_no HF.out (by omega)

def errB (b : Bool) : Int := if b = true then 0 else 1
theorem errF {b : Bool} {k o n t : Int} {kl wl : Nat} (hf : mayS k o n t kl wl = b) (h : ¬ (1 ≤ kl ∧ kl ≤ 32 ∧ 0 ≤ o ∧ o ≤ 15)) : 1 = errB b := by
  have : b = false := by rw [← hf, ← Bool.not_eq_true, mayS_iff]; exact fun q => h q.1
  rw [this]; rfl
theorem errT {b f : Bool} {k o n t : Int} {kl wl : Nat} (hf : mayS k o n t kl wl = b) (h : 1 ≤ kl ∧ kl ≤ 32 ∧ 0 ≤ o ∧ o ≤ 15) (hk : fits k n t wl = f) : b = f := by
  rw [← hf, ← hk, Bool.eq_iff_iff, mayS_iff]; exact ⟨fun q => q.2, fun q => ⟨h, q⟩⟩
set_option maxHeartbeats 1000000 in
theorem CheckEffect_any (k o n t : Int) (sk sw : ByteArray) (b : Bool) (hf : mayS k o n t sk.size sw.size = b) (w : World) :
    Calls Try.prog 9 #[.agg #[.int .i64 k, .int .i64 o, .string sk, .int .i64 n, .int .i64 t, .string sw]] w fun e w' => e = .returned (.int .i64 (errB b)) ∧ Gr w w' := by
  have HF := hide hf
  clear hf
  by_cases h1 : (sk.size : Int) < 1
  · go_enter Try.func9, Try.ntmps9
    go_wp2
    go_ret
    exact ⟨ret_int (errF HF.out (by omega)), (Gr.refl w).alloc _⟩
  · by_cases h2 : (sk.size : Int) > 32
    · go_enter Try.func9, Try.ntmps9
      go_wp2
      go_ret
      exact ⟨ret_int (errF HF.out (by omega)), (Gr.refl w).alloc _⟩
    · by_cases h3 : o < 0
      · go_enter Try.func9, Try.ntmps9
        go_wp2
        go_ret
        exact ⟨ret_int (errF HF.out (by omega)), (Gr.refl w).alloc _⟩
      · by_cases h4 : o > 15
        · go_enter Try.func9, Try.ntmps9
          go_wp2
          go_ret
          exact ⟨ret_int (errF HF.out (by omega)), (Gr.refl w).alloc _⟩
        · obtain ⟨f, hk⟩ : ∃ f, fits k n t sw.size = f := ⟨_, rfl⟩
          have HG := hide (fun W => fitsKind_any k o n t sk sw f hk W)
          have HE := hide (errT HF.out (by omega) hk)
          have HU := hide ((Gr.refl w).alloc (bxF k o n t sk sw))
          clear hk
          cases f
          · go_enter Try.func9, Try.ntmps9
            go_wp2_with (go_at_call 25; refine (HG.out _).mono ?_; rintro e w' ⟨rfl, hg⟩)
            go_ret
            exact ⟨ret_int (by rw [HE.out]; rfl), HU.out.trans hg⟩
          · go_enter Try.func9, Try.ntmps9
            go_wp2_with (go_at_call 25; refine (HG.out _).mono ?_; rintro e w' ⟨rfl, hg⟩)
            go_ret
            exact ⟨ret_int (by rw [HE.out]; rfl), HU.out.trans hg⟩
theorem may_no {b : Bool} {k o n t : Int} {kl wl : Nat} (hf : mayS k o n t kl wl = b) (h : ¬ ((1 ≤ kl ∧ kl ≤ 32 ∧ 0 ≤ o ∧ o ≤ 15) ∧ (((k = 1 ∨ k = 2) ∧ n = 0 ∧ t = 0 ∧ wl = 0) ∨ ((k = 3 ∨ k = 4) ∧ 1 ≤ n ∧ n ≤ 1000 ∧ t = 0 ∧ wl = 0) ∨ (k = 5 ∧ 1 ≤ n ∧ n ≤ 1000 ∧ 1 ≤ t ∧ t ≤ 5 ∧ wl = 0) ∨ (k = 6 ∧ n = 0 ∧ t = 0 ∧ wl ≤ 64)))) : false = b := by
  rw [← hf]; symm; rw [← Bool.not_eq_true, mayS_iff, fits_iff]; exact h
theorem may_if {k o n t : Int} {kl wl : Nat} {f b : Bool} {p : Prop} [Decidable p] (hf : mayS k o n t kl wl = f) (hb : b = decide p) (h : p ↔ ((1 ≤ kl ∧ kl ≤ 32 ∧ 0 ≤ o ∧ o ≤ 15) ∧ (((k = 1 ∨ k = 2) ∧ n = 0 ∧ t = 0 ∧ wl = 0) ∨ ((k = 3 ∨ k = 4) ∧ 1 ≤ n ∧ n ≤ 1000 ∧ t = 0 ∧ wl = 0) ∨ (k = 5 ∧ 1 ≤ n ∧ n ≤ 1000 ∧ 1 ≤ t ∧ t ≤ 5 ∧ wl = 0) ∨ (k = 6 ∧ n = 0 ∧ t = 0 ∧ wl ≤ 64)))) : b = f := by
  rw [← hf, hb, Bool.eq_iff_iff, decide_eq_true_iff, mayS_iff, fits_iff]; exact h
end Go.Proofs.Ytohhlidlgibieaa

/- What a Seen may be, in plain mathematics. -/
namespace Go.Proofs.Ytohhlidlgibieaa

def okAt (c : List Int) (m : List Dot) (i : Nat) : Bool :=
  (mayD (m.getD i (0, 0)) && decide ((m.getD i (0, 0)).2 > getZ c (m.getD i (0, 0)).1 + 1)) && (decide (i = 0) || lessD (m.getD (i - 1) (0, 0)) (m.getD i (0, 0)))
def plainC (c : List Int) : Bool := mayC c && decide (pln (vec c) = c)
def seenB (c : List Int) (m : List Dot) : Bool := plainC c && decide (m.length ≤ 1000) && (List.range m.length).all (okAt c m)
def okFrom (c : List Int) (m : List Dot) (k : Nat) : Prop := ∀ i, k ≤ i → i < m.length → okAt c m i = true
def hasB (c : List Int) (m : List Dot) (d : Dot) : Bool := mayD d && (decide (d.2 ≤ getZ c d.1) || decide (d ∈ m))

theorem okFrom_step {c : List Int} {m : List Dot} {k : Nat} (h : k < m.length) : okFrom c m k ↔ okAt c m k = true ∧ okFrom c m (k + 1) := by
  constructor
  · exact fun q => ⟨q k (Nat.le_refl _) h, fun i hi hl => q i (by omega) hl⟩
  · rintro ⟨q, q'⟩ i hi hl
    by_cases e : i = k
    · subst e; exact q
    · exact q' i (by omega) hl
theorem okFrom_end {c : List Int} {m : List Dot} {k : Nat} (h : m.length ≤ k) : okFrom c m k := fun i hi hl => by omega
theorem seenB_iff {c : List Int} {m : List Dot} : seenB c m = true ↔ plainC c = true ∧ m.length ≤ 1000 ∧ okFrom c m 0 := by
  unfold seenB okFrom
  simp [and_assoc]
theorem pln_zeros (l : List Int) (k : Nat) : pln (l ++ List.replicate k 0) = pln l := by
  induction k with
  | zero => simp
  | succ k ih => rw [List.replicate_succ', ← List.append_assoc, pln_zero, ih]
theorem vec_pad {c : List Int} (h : mayC c = true) : vec c = c ++ List.replicate (5 - c.length) 0 := by
  have h5 := (mayC_iff.1 h).1
  unfold vec at5
  simp only [if_pos h]
  match c, h5 with
  | [], _ => rfl
  | [_], _ => rfl
  | [_, _], _ => rfl
  | [_, _, _], _ => rfl
  | [_, _, _, _], _ => rfl
  | [_, _, _, _, _], _ => rfl
  | _ :: _ :: _ :: _ :: _ :: _ :: _, h5 => simp at h5
theorem plain_len {c : List Int} (h : mayC c = true) : (pln (vec c)).length = c.length ↔ pln (vec c) = c := by
  rw [vec_pad h, pln_zeros]
  constructor
  · intro e
    unfold pln at *
    exact List.take_of_length_le (by rw [List.length_take] at e; omega)
  · exact fun e => by rw [e]
theorem plainC_as {c : List Int} (h : mayC c = true) : plainC c = decide ((pln (vec c)).length = c.length) := by
  unfold plainC
  rw [h, Bool.true_and]
  exact decide_eq_decide.2 (plain_len h).symm
theorem numX_getZ (c : List Int) {d : Dot} (h : mayD d = true) : numX (vec c) d = getZ c d.1 := by
  rw [mayD_iff] at h
  unfold numX getZ
  rw [if_pos ⟨h.1, h.2.1⟩, vec_getD c _ (by omega)]
  congr 1
  omega
theorem vec_bdX (c : List Int) : BdX (vec c) := ⟨vec_len c, vec_bd c⟩
theorem srt_of_next : ∀ {l : List Dot}, (∀ i, i + 1 < l.length → lessD (l.getD i (0, 0)) (l.getD (i + 1) (0, 0)) = true) → SrtD l
  | [], _ => List.Pairwise.nil
  | [x], _ => by simp [SrtD]
  | x :: y :: r, h => by
    have ih := srt_of_next (l := y :: r) (fun i hi => by simpa using h (i + 1) (by simp at hi ⊢; omega))
    have h0 : lessD x y = true := by simpa using h 0 (by simp)
    refine List.pairwise_cons.2 ⟨fun a ha => ?_, ih⟩
    rcases List.mem_cons.1 ha with rfl | ha
    · exact h0
    · exact lessD_trans h0 ((List.pairwise_cons.1 ih).1 a ha)
theorem getDot_mem {l : List Dot} {i : Nat} (h : i < l.length) : l.getD i (0, 0) ∈ l := by
  have : l.getD i (0, 0) = l[i] := by simp [List.getD_eq_getElem?_getD, h]
  rw [this]; exact List.getElem_mem h
theorem mem_getD {l : List Dot} {x : Dot} (h : x ∈ l) : ∃ i, i < l.length ∧ l.getD i (0, 0) = x := by
  obtain ⟨i, hi, rfl⟩ := List.getElem_of_mem h
  exact ⟨i, hi, by simp [List.getD_eq_getElem?_getD, hi]⟩
theorem srt_lt {l : List Dot} (h : SrtD l) {i j : Nat} (hij : i < j) (hj : j < l.length) : lessD (l.getD i (0, 0)) (l.getD j (0, 0)) = true := by
  have := List.pairwise_iff_getElem.1 h i j (by omega) hj hij
  simpa [List.getD_eq_getElem?_getD, hj, show i < l.length by omega] using this
theorem seen_good {c : List Int} {m : List Dot} (h : seenB c m = true) : GoodX (vec c, m) ∧ pln (vec c) = c ∧ mayC c = true ∧ m.length ≤ 1000 := by
  obtain ⟨h1, h2, h3⟩ := seenB_iff.1 h
  unfold plainC at h1
  simp only [Bool.and_eq_true, decide_eq_true_eq] at h1
  have hA : ∀ i, i < m.length → mayD (m.getD i (0, 0)) = true ∧ getZ c (m.getD i (0, 0)).1 + 1 < (m.getD i (0, 0)).2 ∧ (i = 0 ∨ lessD (m.getD (i - 1) (0, 0)) (m.getD i (0, 0)) = true) := fun i hi => by
    have := h3 i (by omega) hi
    unfold okAt at this
    simp only [Bool.and_eq_true, Bool.or_eq_true, decide_eq_true_eq] at this
    exact ⟨this.1.1, this.1.2, this.2⟩
  refine ⟨⟨vec_bdX c, srt_of_next fun i hi => ?_, fun x hx => ?_⟩, h1.2, h1.1, h2⟩
  · rcases (hA (i + 1) hi).2.2 with q | q
    · omega
    · simpa using q
  · obtain ⟨i, hi, rfl⟩ := mem_getD hx
    have := hA i hi
    exact ⟨this.1, by rw [numX_getZ c this.1]; exact this.2.1⟩
theorem good_seen {X : List Int} {m : List Dot} (h : GoodX (X, m)) (hl : m.length ≤ 1000) : seenB (pln X) m = true := by
  have e : vec (pln X) = X := vec_pln X h.1.1 h.1.2
  rw [seenB_iff]
  refine ⟨?_, hl, fun i _ hi => ?_⟩
  · unfold plainC
    rw [mayC_pln X (by have : X.length = 5 := h.1.1; omega) h.1.2, e]
    simp
  · have hx := h.2.2 _ (getDot_mem hi)
    have hz := numX_getZ (pln X) hx.1
    rw [e] at hz
    unfold okAt
    rw [hx.1]
    simp only [Bool.true_and, Bool.and_eq_true, Bool.or_eq_true, decide_eq_true_eq]
    refine ⟨by rw [← hz]; exact hx.2, ?_⟩
    rcases Nat.eq_zero_or_pos i with q | q
    · exact .inl q
    · exact .inr (srt_lt h.2.1 (by omega) hi)
theorem hasB_iff {c : List Int} {m : List Dot} {d : Dot} : hasB c m d = true ↔ mayD d = true ∧ hasX (vec c, m) d := by
  unfold hasB
  simp only [Bool.and_eq_true, Bool.or_eq_true, decide_eq_true_eq]
  constructor
  · rintro ⟨h, q⟩
    refine ⟨h, ?_⟩
    unfold hasX
    rw [numX_getZ c h]
    exact q
  · rintro ⟨h, q⟩
    refine ⟨h, ?_⟩
    unfold hasX at q
    rw [numX_getZ c h] at q
    exact q
theorem found_iff {l : List Dot} (h : SrtD l) {d : Dot} {i : Nat} (h1 : ∀ t, t < i → lessD (l.getD t (0, 0)) d = true) (h2 : ∀ t, i ≤ t → t < l.length → lessD (l.getD t (0, 0)) d = false) :
    d ∈ l ↔ (i < l.length ∧ cmpD (l.getD i (0, 0)) d = 0) := by
  rw [cmpD_eq]
  constructor
  · intro hd
    obtain ⟨t, ht, e⟩ := mem_getD hd
    have h3 : i ≤ t := Nat.not_lt.1 fun q => by have := h1 t q; rw [e, lessD_irr] at this; cases this
    have h4 : ¬ i < t := fun q => by have := srt_lt h q ht; rw [e, h2 i (Nat.le_refl _) (by omega)] at this; cases this
    have h5 : i = t := by omega
    subst h5
    exact ⟨ht, e⟩
  · rintro ⟨hi, e⟩
    rw [← e]; exact getDot_mem hi
end Go.Proofs.Ytohhlidlgibieaa

