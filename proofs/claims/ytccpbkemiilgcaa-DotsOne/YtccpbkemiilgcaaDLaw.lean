/- What the statements' 'awake', 'Light' and 'low' do; what a statement is told of dots and of a Seen that came in. -/
import Derived.Test.YtccpbkemiilgcaaDAdd
import Derived.Deep.SlicePairs
import Derived.Lib.SmallJoins
namespace Go.Proofs.Ytccpbkemiilgcaa
open Go.RowKit Go.ChangeShapes Go.WideShapes
set_option linter.unusedVariables false

/-- A dot that came in. -/
def InD (w : World) (v : Value) : Prop := ∃ r s : Int, v = .agg #[.int .i64 r, .int .i64 s]
/-- Dots that came in. -/
def InDs (w : World) (v : Value) : Prop := ∃ a len cap l, v = .slice a len cap ∧ DS w a len l ∧ CP a len cap
/-- A Seen that came in. -/
def InS (w : World) (v : Value) : Prop := ∃ pa na ca c pm nm cm m, v = .agg #[.slice pa na ca, .slice pm nm cm] ∧ NS w pa na c ∧ CP pa na ca ∧ DS w pm nm m ∧ CP pm nm cm

section
variable {H : Type} {enc : TypeId × Value → H} {W : World}
set_option maxRecDepth 100000 in
theorem nums_trod {v : Value} {fuel : Nat} {y : DataW H × List MemPlace} (h : DataW.trod enc Try.prog W 0 (fun _ => true) true fuel 23 [v] = some y) : ∃ a len cap l, v = .slice a len cap ∧ NS W a len l ∧ CP a len cap := by
  rcases open_ints Try.underlying23 Try.underlying3 (by kernel_rfl) h with ⟨hcs, _⟩ | ⟨x, l, c, zs, hcs, _, hl, hm, hz, hx, hcell, hwz⟩
  · simp at hcs
    subst hcs
    exact ⟨_, _, _, [], rfl, NS.nil _ _, Nat.le_refl _, by decide, fun _ => rfl⟩
  · simp at hcs
    subst hcs
    simp at hz
    exact ⟨_, _, _, zs.take l, rfl, ns_of_cells hl hm hz (fun i hi => hcell i (by omega)), hl, hm, fun h => by cases h⟩
set_option maxRecDepth 100000 in
theorem dots_trod {v : Value} {fuel : Nat} {y : DataW H × List MemPlace} (h : DataW.trod enc Try.prog W 0 (fun _ => true) true fuel 24 [v] = some y) : InDs W v := by
  rcases Deep.open_slice_pairs Try.underlying24 Try.underlying28 (by kernel_rfl) rfl rfl (by kernel_rfl) (by kernel_rfl) h with ⟨hcs, _⟩ | ⟨a, len, cap, m, n, V0, V1, D0, D1, P0, P1, hcs, _, hl, hm, hmm, _, hc⟩
  · simp at hcs
    subst hcs
    exact ⟨_, _, _, [], rfl, DS.nil _ _, Nat.le_refl _, by decide, fun _ => rfl⟩
  · simp at hcs
    subst hcs
    have hmm' : m = cap := by simpa using hmm
    subst hmm'
    have hk : ∀ i, i < len → ∃ d : Dot, W.cell? (a.add (i * 2)) = some (.int .i64 d.1) ∧ W.cell? (a.add (i * 2 + 1)) = some (.int .i64 d.2) := by
      intro i hi
      obtain ⟨h1, h2, h3, h4⟩ := hc i (by omega)
      obtain ⟨r, hr, _, _⟩ := DataW.trod_int Try.underlying3 h3
      obtain ⟨s, hs, _, _⟩ := DataW.trod_int Try.underlying3 h4
      simp at hr hs
      exact ⟨(r, s), by rw [h1, hr], by rw [h2, hs]⟩
    have hf : ∃ f : Nat → Dot, ∀ i, i < len → W.cell? (a.add (i * 2)) = some (.int .i64 (f i).1) ∧ W.cell? (a.add (i * 2 + 1)) = some (.int .i64 (f i).2) := by
      refine ⟨fun i => if h : i < len then Classical.choose (hk i h) else (0, 0), fun i hi => ?_⟩
      have := Classical.choose_spec (hk i hi)
      simpa [hi] using this
    obtain ⟨f, hf⟩ := hf
    refine ⟨_, _, _, (List.range len).map f, rfl, ⟨by simp, by omega, ?_⟩, hl, hm, fun h => by cases h⟩
    rcases Nat.eq_zero_or_pos len with h0 | hp
    · exact .inl h0
    · obtain ⟨b, off, spot⟩ := a
      have hspot : spot = none := by simpa [Addr.add] using World.cell?_spot (hf 0 hp).1
      subst hspot
      refine .inr ⟨b, off, rfl, fun i hi => ?_⟩
      have e : ((List.range len).map f).getD i (0, 0) = f i := by simp [List.getD_eq_getElem?_getD, hi]
      have q := hf i hi
      rw [e]
      refine ⟨?_, by simpa [Addr.add, Nat.add_assoc] using q.2⟩
      by_cases hi0 : i = 0
      · subst hi0; simpa [Addr.add] using q.1
      · simpa [Addr.add, show ¬ i * 2 = 0 by omega] using q.1
set_option maxRecDepth 100000 in
theorem in_dot {v : Value} {d : DataW H} {p : List MemPlace} {base : Nat} (hok : Value.okWide Try.prog W .any base 28 v) (h : DataW.Trod enc Try.prog W 0 (fun _ => true) true 28 v d p) (hw : ∀ n ∈ d.weights Try.prog 28, n ≤ reachBytes) : InD W v := by
  obtain ⟨v0, v1, y0, y1, n, rfl, _, _, h0, h1⟩ := Joins.open_agg2 Try.underlying28 (by kernel_rfl) (by kernel_rfl) hok h
  obtain ⟨r, hr, _, _⟩ := DataW.trod_int Try.underlying3 h0
  obtain ⟨s, hs, _, _⟩ := DataW.trod_int Try.underlying3 h1
  simp at hr hs
  exact ⟨r, s, by rw [hr, hs]⟩
set_option maxRecDepth 100000 in
theorem in_dots {v : Value} {d : DataW H} {p : List MemPlace} {base : Nat} (hok : Value.okWide Try.prog W .any base 24 v) (h : DataW.Trod enc Try.prog W 0 (fun _ => true) true 24 v d p) (hw : ∀ n ∈ d.weights Try.prog 24, n ≤ reachBytes) : InDs W v := by
  obtain ⟨a, len, cap, rfl⟩ := okWide_slice Try.underlying24 hok
  obtain ⟨fuel, hf⟩ := h
  exact dots_trod (v := .slice a len cap) hf
set_option maxRecDepth 100000 in
theorem in_seen {v : Value} {d : DataW H} {p : List MemPlace} {base : Nat} (hok : Value.okWide Try.prog W .any base 26 v) (h : DataW.Trod enc Try.prog W 0 (fun _ => true) true 26 v d p) (hw : ∀ n ∈ d.weights Try.prog 26, n ≤ reachBytes) : InS W v := by
  obtain ⟨v0, v1, y0, y1, n, rfl, _, _, h0, h1⟩ := Joins.open_agg2 Try.underlying26 (by kernel_rfl) (by kernel_rfl) hok h
  obtain ⟨a, len, cap, l, rfl, h2, h3⟩ := nums_trod h0
  obtain ⟨a', len', cap', l', rfl, h4, h5⟩ := dots_trod h1
  exact ⟨_, _, _, _, _, _, _, _, rfl, h2, h3, h4, h5⟩
end

set_option maxHeartbeats 2000000 in
set_option maxRecDepth 100000 in
theorem awake4 (w : World) : Calls Try.prog 8 #[] w fun e w' => e = .returned (.bool true) ∧ Below w.heap.size w w' := by
  have HA := hide (Add_good none none 0 0 0 0 [] [] (some ⟨w.heap.size, 0, none⟩) 2 2 [(1, 2), (1, 1)] (w.alloc (.cells #[.int .i64 1, .int .i64 2, .int .i64 1, .int .i64 1] 28)) (NS.nil _ _) (DS.nil _ _) (DS.new w _ rfl _ _ rfl _ _ 2 rfl (by decide)) (by decide) (by decide) (fun _ => rfl) (fun h => by cases h) (by omega))
  have e : addF [] [] [(1, 2), (1, 1)] = ([2, 0, 0, 0, 0], []) := by decide
  rw [e] at HA
  have HM := hide (fun W => May_any 1 2 W)
  have em : mayD (1, 2) = true := by decide
  rw [em] at HM
  clear e em
  go_enter Try.func8, Try.ntmps8
  go_wp2_with (go_at_call 9; refine Stop.at ?_)
  unfold Stop
  refine HA.out.mono ?_
  rintro e u ⟨⟨p1, k1, c1, p2, k2, c2, rfl, hns, _, hds, _, _, _⟩, hb⟩
  have HB := hide (bel_next (bel1 w _) hb)
  have hk1 : k1 = 1 := hns.1.symm
  have hk2 : k2 = 0 := hds.1.symm
  subst hk1 hk2
  rcases hns.2.2 with h0 | ⟨b, off, rfl, hc⟩
  · omega
  · have hc0 := hc 0 (by omega)
    rw [Nat.add_zero] at hc0
    have hc1 : u.cell? ⟨b, off, none⟩ = some (.int .i64 2) := hc0
    have HBx := hide (bel_next HB.out (bel1 u (.cells #[.slice (some ⟨b, off, none⟩) 1 c1, .slice p2 0 c2] 26)))
    have hc2 := cell_old (.cells #[.slice (some ⟨b, off, none⟩) 1 c1, .slice p2 0 c2] 26) hc1
    clear hc hc0 hns hds hb HA
    go_wp2_with (go_at_call 10; refine (HM.out _).mono ?_; rintro e u2 ⟨rfl, hg⟩)
    go_ret
    exact ⟨rfl, bel_next HBx.out hg.bel⟩
theorem light4 (pa pm : Option Addr) (na ca nm cm : Nat) (w : World) (r : Bool) (hr : decide (na ≤ 20 ∧ nm ≤ 40) = r) (h1 : na ≤ maxLen) (h2 : nm ≤ maxLen) :
    Calls Try.prog 7 #[.agg #[.slice pa na ca, .slice pm nm cm]] w fun e w' => e = .returned (.bool r) ∧ Below w.heap.size w w' := by
  unfold maxLen at h1 h2
  by_cases k1 : (na : Int) ≤ 20
  · by_cases k2 : (nm : Int) ≤ 40
    · have hE : Hid (true = r) := by unfold Hid; rw [← hr]; symm; rw [decide_eq_true_iff]; omega
      clear hr
      go_enter Try.func7, Try.ntmps7
      go_wp2
      go_ret
      exact ⟨retB (by have h := hE.out; simpa using h), bel1 _ _⟩
    · have hE : Hid (false = r) := by unfold Hid; rw [← hr]; symm; rw [decide_eq_false_iff_not]; omega
      clear hr
      go_enter Try.func7, Try.ntmps7
      go_wp2
      go_ret
      exact ⟨retB (by have h := hE.out; simpa using h), bel1 _ _⟩
  · have hE : Hid (false = r) := by unfold Hid; rw [← hr]; symm; rw [decide_eq_false_iff_not]; omega
    clear hr
    go_enter Try.func7, Try.ntmps7
    go_wp2
    go_ret
    exact ⟨retB (by have h := hE.out; simpa using h), bel1 _ _⟩
end Go.Proofs.Ytccpbkemiilgcaa
