/- What the statements' 'awake' and 'light' do; and what a statement is told of a clock that came in. -/
import Derived.Test.YtccpbkemiilgcaaCRef2
import Derived.SizedLaws
import Derived.OpenShut
import Derived.ProofKit
namespace Go.Proofs.Ytccpbkemiilgcaa
open Go.RowKit Go.ChangeShapes Go.WideShapes
set_option linter.unusedVariables false

/-- A clock that came in. -/
def InN (w : World) (v : Value) : Prop := ∃ a len cap l, v = .slice a len cap ∧ NS w a len l ∧ CP a len cap

theorem ns_of_cells {w : World} {x : Addr} {len cap : Nat} {zs : List Int} (hl : len ≤ cap) (hm : cap ≤ maxLen) (hz : zs.length = cap) (hcell : ∀ i, i < cap → w.cell? (x.add i) = some (.int .i64 (zs.getD i 0))) :
    NS w (some x) len (zs.take len) := by
  refine ⟨by rw [List.length_take]; omega, by omega, ?_⟩
  rcases Nat.eq_zero_or_pos len with h0 | hp
  · exact .inl h0
  · obtain ⟨b, off, spot⟩ := x
    have hspot : spot = none := by simpa [Addr.add] using World.cell?_spot (hcell 0 (by omega))
    subst hspot
    refine .inr ⟨b, off, rfl, fun i hi => ?_⟩
    have h1 := hcell i (by omega)
    have h2 : (zs.take len).getD i 0 = zs.getD i 0 := by simp [List.getD_eq_getElem?_getD, hi]
    rw [h2]
    by_cases hi0 : i = 0
    · subst hi0; simpa [Addr.add] using h1
    · simpa [Addr.add, hi0] using h1

set_option maxRecDepth 100000 in
theorem in_nums {H : Type} {enc : TypeId × Value → H} {W : World} {v : Value} {d : DataW H} {p : List MemPlace} {base : Nat} (hok : Value.okWide Try.prog W .any base 23 v) (h : DataW.Trod enc Try.prog W 0 (fun _ => true) true 23 v d p) (hw : ∀ n ∈ d.weights Try.prog 23, n ≤ reachBytes) : InN W v := by
  obtain ⟨a, len, cap, rfl⟩ := okWide_slice Try.underlying23 hok
  obtain ⟨fuel, hf⟩ := h
  rcases open_ints Try.underlying23 Try.underlying3 (by kernel_rfl) hf with ⟨hcs, _⟩ | ⟨x, l, c, zs, hcs, _, hl, hm, hz, hx, hcell, hwz⟩
  · simp [Value.cells] at hcs
    obtain ⟨rfl, rfl, rfl⟩ := hcs
    exact ⟨_, _, _, [], rfl, NS.nil _ _, Nat.le_refl _, by decide, fun _ => rfl⟩
  · simp [Value.cells] at hcs
    obtain ⟨rfl, rfl, rfl⟩ := hcs
    simp at hz
    simp only [Prod.mk.injEq] at hx
    obtain ⟨rfl, _⟩ := hx
    exact ⟨_, _, _, zs.take len, rfl, ns_of_cells hl hm hz (fun i hi => hcell i (by omega)), hl, hm, fun h => by cases h⟩

theorem CS.new (w : World) (g : Nat) (hg : g = w.heap.size) (qs : List (Option Addr × Nat × Nat × List Int)) (C : Array Value) (hC : C = (qs.map fun q => Value.slice q.1 q.2.1 q.2.2.1).toArray) (fr : Nat × Nat)
    (n : Nat) (hn : qs.length = n) (hmax : n ≤ maxLen) (ps : List (List Int)) (hps : ps = qs.map fun q => q.2.2.2) (hq : ∀ q ∈ qs, NS w q.1 q.2.1 q.2.2.2) :
    CS (w.alloc (.cells C 23 fr)) (some ⟨g, 0, none⟩) n ps := by
  subst hg hC hps
  refine ⟨by simpa using hn, hmax, .inr ⟨_, 0, rfl, fun i hi => ?_⟩⟩
  rw [World.cell?_alloc_mark]
  subst hn
  refine ⟨qs[i].1, qs[i].2.1, qs[i].2.2.1, by simp [hi], ?_⟩
  have := (hq qs[i] (List.getElem_mem hi)).alloc (.cells (qs.map fun q => Value.slice q.1 q.2.1 q.2.2.1).toArray 23 fr)
  simpa [List.getD_eq_getElem?_getD, hi] using this
theorem CS.two (w : World) (g : Nat) (hg : g = w.heap.size) (a b : Option Addr) (n cap m cap' : Nat) (c d : List Int) (hN : NS w a n c) (hM : NS w b m d) :
    CS (w.alloc (.cells #[.slice a n cap, .slice b m cap'] 23)) (some ⟨g, 0, none⟩) 2 [c, d] := by
  refine CS.new w g hg [(a, n, cap, c), (b, m, cap', d)] _ rfl _ 2 rfl (by decide) _ rfl ?_
  intro q hq
  simp only [List.mem_cons, List.not_mem_nil, or_false] at hq
  rcases hq with rfl | rfl
  · exact hN
  · exact hM
theorem CS.three (w : World) (g : Nat) (hg : g = w.heap.size) (a b e : Option Addr) (n cap m cap' k cap'' : Nat) (c d f : List Int) (hN : NS w a n c) (hM : NS w b m d) (hK : NS w e k f) :
    CS (w.alloc (.cells #[.slice a n cap, .slice b m cap', .slice e k cap''] 23)) (some ⟨g, 0, none⟩) 3 [c, d, f] := by
  refine CS.new w g hg [(a, n, cap, c), (b, m, cap', d), (e, k, cap'', f)] _ rfl _ 3 rfl (by decide) _ rfl ?_
  intro q hq
  simp only [List.mem_cons, List.not_mem_nil, or_false] at hq
  rcases hq with rfl | rfl | rfl
  · exact hN
  · exact hM
  · exact hK
theorem jAt_two (c d : List Int) (i : Nat) : jAt [c, d] i = max (at5 c i) (at5 d i) := by
  have h := at5_bd c i
  show max (max 0 (at5 c i)) (at5 d i) = _
  omega
theorem joins2 (c d : List Int) : [jAt [c, d] 0, jAt [c, d] 1, jAt [c, d] 2, jAt [c, d] 3, jAt [c, d] 4] = joinL c d := by simp only [jAt_two]; rfl
theorem jAt_three (c d f : List Int) (i : Nat) (hi : i < 5) : jAt [c, d, f] i = max (at5 f i) (at5 (pln (joinL c d)) i) := by
  have h := at5_bd c i
  rw [at5_join c d i hi]
  show max (max (max 0 (at5 c i)) (at5 d i)) (at5 f i) = _
  omega
theorem joins3 (c d f : List Int) : [jAt [c, d, f] 0, jAt [c, d, f] 1, jAt [c, d, f] 2, jAt [c, d, f] 3, jAt [c, d, f] 4] = joinL f (pln (joinL c d)) := by
  rw [jAt_three _ _ _ 0 (by omega), jAt_three _ _ _ 1 (by omega), jAt_three _ _ _ 2 (by omega), jAt_three _ _ _ 3 (by omega), jAt_three _ _ _ 4 (by omega)]; rfl

/-- 'Join' of two clocks. -/
theorem join2_any (w : World) (g : Nat) (hg : g = w.heap.size) (a b : Option Addr) (n cap m cap' : Nat) (c d : List Int) (hN : NS w a n c) (hM : NS w b m d) :
    Calls Try.prog 45 #[.slice (some ⟨g, 0, none⟩) 2 2] (w.alloc (.cells #[.slice a n cap, .slice b m cap'] 23)) fun e w' => ∃ v, e = .returned v ∧ OwnN w.heap.size w' v (pln (joinL c d)) ∧ Below w.heap.size w w' := by
  refine (Join_any _ _ _ _ _ (CS.two w g hg a b n cap m cap' c d hN hM)).mono ?_
  rintro e w' ⟨v, rfl, hO, hB⟩
  rw [joins2] at hO
  exact ⟨v, rfl, hO.mono (by simp), bel_next (bel1 _ _) hB⟩
/-- 'Join' of three. -/
theorem join3_any (w : World) (g : Nat) (hg : g = w.heap.size) (a b e : Option Addr) (n cap m cap' k cap'' : Nat) (c d f : List Int) (hN : NS w a n c) (hM : NS w b m d) (hK : NS w e k f) :
    Calls Try.prog 45 #[.slice (some ⟨g, 0, none⟩) 3 3] (w.alloc (.cells #[.slice a n cap, .slice b m cap', .slice e k cap''] 23)) fun e w' => ∃ v, e = .returned v ∧ OwnN w.heap.size w' v (pln (joinL f (pln (joinL c d)))) ∧ Below w.heap.size w w' := by
  refine (Join_any _ _ _ _ _ (CS.three w g hg a b e n cap m cap' k cap'' c d f hN hM hK)).mono ?_
  rintro e w' ⟨v, rfl, hO, hB⟩
  rw [joins3] at hO
  exact ⟨v, rfl, hO.mono (by simp), bel_next (bel1 _ _) hB⟩
/-- 'Same' of what the call made. -/
theorem same_own (w : World) (N M : Nat) (v u : Value) (c d : List Int) (hv : OwnN N w v c) (hu : OwnN M w u d) (r : Bool) (hr : r = decide (c = d)) :
    Calls Try.prog 35 #[v, u] w fun e w' => e = .returned (.bool r) ∧ Below w.heap.size w w' := by
  obtain ⟨p, cp, rfl, h1, _⟩ := hv.open
  obtain ⟨q, cq, rfl, h2, _⟩ := hu.open
  subst hr
  exact same_any _ _ _ _ _ _ _ _ _ h1 h2

end Go.Proofs.Ytccpbkemiilgcaa
