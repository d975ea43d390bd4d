/- What may come in, and how great it may be. -/
import Derived.Test.YtohkopjacpendaaGRel
namespace Go.Proofs.Ytohkopjacpendaa
open Go.RowKit Go.ChangeShapes Go.WideShapes
set_option linter.unusedVariables false
/-- What may come in of a type, none of it greater than memory reaches, stands for something. -/
def OpensW {α : Type} (T : TypeId) (R : Rl α) : Prop := ∀ (H : Type) (enc : TypeId × Value → H) (W : World) (fuel : Nat) (cs : List Value) (y : DataW H × List MemPlace), DataW.trod enc Try.prog W 0 (fun _ => true) true fuel T cs = some y → (∀ n ∈ y.1.weights Try.prog T, n ≤ reachBytes) → ∃ x, R W cs x
theorem Opens.w {α : Type} {T : TypeId} {R : Rl α} (h : Opens T R) : OpensW T R := fun H enc W fuel cs y h' _ => h H enc W fuel cs y h'
theorem weightsAll_mem {H : Type} {P : Program} {e : TypeId} : ∀ {l : List (DataW H)} {d : DataW H}, d ∈ l → ∀ n ∈ d.weights P e, n ∈ DataW.weightsAll P e l
  | [], _, h, _, _ => by cases h
  | x :: l, d, h, n, hn => by
    rw [DataW.weightsAll, List.mem_append]
    rcases List.mem_cons.1 h with rfl | h
    · exact .inl hn
    · exact .inr (weightsAll_mem h n hn)
theorem OpensW.slice {α : Type} {T E : TypeId} {R : Rl α} {k : Nat} (hu : Try.prog.underlying T = some (.slice E)) (hk : Try.prog.cellsOf E = k) (hk0 : 0 < k) (hE : OpensW E R) (d : α) :
    OpensW T (fun w cs (l : List α) => ∃ a n cap, cs = [.slice a n cap] ∧ SR k R w a n l ∧ CP a n cap) := by
  intro H enc W fuel cs y h hw
  rcases Deep.open_slice hu h with ⟨hcs, _⟩ | ⟨a, len, cap, m, n, D, Pl, hcs, _, hl, hm, hmm, hy, hx⟩
  · exact ⟨[], _, _, _, hcs, SR.nil _ _, Nat.le_refl _, by decide, fun _ => rfl⟩
  · have hmm' : m = cap := by simpa using hmm
    subst hmm'
    rw [hk] at hx
    have hwe : ∀ i, i < len → ∀ q ∈ (D i).weights Try.prog E, q ≤ reachBytes := by
      intro i hi q hq
      refine hw q ?_
      rw [hy]
      simp only [DataW.weights, hu, List.mem_cons, List.mem_append]
      exact .inr (.inl (weightsAll_mem (List.mem_map.2 ⟨i, List.mem_range.2 hi, rfl⟩) q hq))
    have each : ∀ i, i < len → ∃ p : α × List Value, p.2.length = k ∧ R W p.2 p.1 ∧ ∀ j u, p.2[j]? = some u → W.cell? (a.add (i * k + j)) = some u := by
      intro i hi
      obtain ⟨cs', h1, h2⟩ := hx i (by omega)
      obtain ⟨_, hlen, hcell⟩ := World.cells?_some h1
      obtain ⟨x, he⟩ := hE _ _ _ _ _ _ h2 (hwe i hi)
      refine ⟨(x, cs'), hlen, he, fun j u hj => ?_⟩
      have hj4 : j < k := by have := (List.getElem?_eq_some_iff.1 hj).1; simp only [] at this; omega
      have q := hcell j hj4
      rw [Deep.add_add] at q
      rw [q]
      exact hj
    have hf : ∃ f : Nat → α × List Value, ∀ i, i < len → (f i).2.length = k ∧ R W (f i).2 (f i).1 ∧ ∀ j u, (f i).2[j]? = some u → W.cell? (a.add (i * k + j)) = some u := by
      refine ⟨fun i => if h : i < len then Classical.choose (each i h) else (d, []), fun i hi => ?_⟩
      have := Classical.choose_spec (each i hi)
      simpa [hi] using this
    obtain ⟨f, hf⟩ := hf
    refine ⟨(List.range len).map (fun i => (f i).1), _, _, _, hcs, ⟨by simp, by omega, ?_⟩, hl, hm, fun h => by cases h⟩
    rcases Nat.eq_zero_or_pos len with h0 | hp
    · exact .inl h0
    · obtain ⟨b, off, spot⟩ := a
      have hspot : spot = none := by
        obtain ⟨q1, _, q3⟩ := hf 0 hp
        have := q3 0 ((f 0).2[0]'(by omega)) (List.getElem?_eq_getElem _)
        simpa [Addr.add] using World.cell?_spot this
      subst hspot
      refine .inr ⟨b, off, rfl, fun i x hi => ?_⟩
      have hil : i < len := by have := (List.getElem?_eq_some_iff.1 hi).1; simpa using this
      have hxf : x = (f i).1 := by simpa [hil] using hi.symm
      subst hxf
      obtain ⟨q1, q2, q3⟩ := hf i hil
      refine ⟨(f i).2, q1, q2, fun j v hj => ?_⟩
      have q := q3 j v hj
      rw [addr_add] at q
      rw [Nat.add_assoc]
      exact q
/-- Bytes that memory can hold. -/
def bytesW : Rl (List Int) := fun w cs l => ∃ a n cap, cs = [.slice a n cap] ∧ BS w a n l ∧ CP a n cap ∧ l.length ≤ 140737488351232
theorem bytesW.stb : Stb bytesW := fun w w' r x hx ⟨a, n, cap, h1, h2, h3, h4⟩ => ⟨a, n, cap, h1, h2.ext hx, h3, h4⟩
theorem OpensW.bytes {T E : TypeId} (hu : Try.prog.underlying T = some (.slice E)) (hE : Try.prog.underlying E = some (.int .u8)) (hk : Try.prog.cellsOf E = 1) (hby : Try.prog.bytesOf E = 1) : OpensW T bytesW := by
  intro H enc W fuel cs y h hw
  rcases open_ints hu hE hk h with ⟨hcs, _⟩ | ⟨x, l, c, zs, hcs, _, hl, hm, hz, hx, hcell, hwz⟩
  · exact ⟨[], _, _, _, hcs, BS.nil _ _, ⟨Nat.le_refl _, by decide, fun _ => rfl⟩, by simp⟩
  · simp at hz
    obtain ⟨y1, y2⟩ := y
    simp only [Prod.mk.injEq] at hx
    obtain ⟨rfl, _⟩ := hx
    have h1 := hw ((zs.take l).length + (zs.drop l).length) (by simp [DataW.weights, hu, hby, lits])
    have h2 : reachBytes = 140737488351232 := rfl
    rw [← List.length_append, List.take_append_drop, h2] at h1
    exact ⟨zs.take l, _, _, _, hcs, bs_of_cells hl hm hz (fun i hi => hcell i (by omega)) hwz, ⟨hl, hm, fun h => by cases h⟩, by rw [List.length_take]; omega⟩
set_option maxRecDepth 100000 in
/-- A parameter that is a slice. -/
theorem OpensW.in {α : Type} {T E : TypeId} {R : Rl α} (hu : Try.prog.underlying T = some (.slice E)) (hO : OpensW T R) {H : Type} {enc : TypeId × Value → H} {W : World} {v : Value} {d : DataW H} {p : List MemPlace} {base : Nat} (hok : Value.okWide Try.prog W .any base T v) (h : DataW.Trod enc Try.prog W 0 (fun _ => true) true T v d p) (hw : ∀ n ∈ d.weights Try.prog T, n ≤ reachBytes) : ∃ x, R W [v] x := by
  obtain ⟨a, len, cap, rfl⟩ := okWide_slice hu hok
  obtain ⟨fuel, hf⟩ := h
  exact hO _ _ _ _ _ _ hf hw
/-- Bytes that came in. -/
def InBW (w : World) (v : Value) : Prop := ∃ a n cap l, v = .slice a n cap ∧ BS w a n l ∧ CP a n cap ∧ l.length ≤ 140737488351232
set_option maxRecDepth 100000 in
theorem in_bytesW {H : Type} {enc : TypeId × Value → H} {W : World} {v : Value} {d : DataW H} {p : List MemPlace} {base : Nat} (hok : Value.okWide Try.prog W .any base 42 v) (h : DataW.Trod enc Try.prog W 0 (fun _ => true) true 42 v d p) (hw : ∀ n ∈ d.weights Try.prog 42, n ≤ reachBytes) : InBW W v := by
  obtain ⟨l, a, n, cap, hv, h1, h2, h3⟩ := OpensW.in Try.underlying42 (OpensW.bytes Try.underlying42 Try.underlying5 (by kernel_rfl) (by kernel_rfl)) hok h hw
  exact ⟨a, n, cap, l, by simpa using hv, h1, h2, h3⟩
end Go.Proofs.Ytohkopjacpendaa
