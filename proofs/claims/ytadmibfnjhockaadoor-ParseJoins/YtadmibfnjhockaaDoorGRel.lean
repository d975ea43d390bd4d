/- What lies in memory, told by relations that are put together of parts; what a statement is told of values that came in. -/
import Derived.Test.YtadmibfnjhockaaDoorGBase
import Derived.SizedLaws
import Derived.Deep.Matrix
import Derived.Deep.SlicePairs
import Derived.Lib.SmallJoins
import Derived.OpenShut
import Derived.ProofKit
namespace Go.Proofs.YtadmibfnjhockaaDoor
open Go.RowKit Go.ChangeShapes Go.WideShapes
set_option linter.unusedVariables false

/-- A row of cells stands for a thing, in a world. -/
abbrev Rl (α : Type) := World → List Value → α → Prop
/-- What a row stands for is told by memory that was there: nothing new turns it. -/
def Stb {α : Type} (R : Rl α) : Prop := ∀ w w' r x, Ext w w' → R w r x → R w' r x
/-- A slice whose elements, of k cells each, stand for the things of a list. -/
def SR {α : Type} (k : Nat) (R : Rl α) (w : World) (a : Option Addr) (n : Nat) (l : List α) : Prop :=
  l.length = n ∧ n ≤ maxLen ∧ (n = 0 ∨ ∃ b off, a = some ⟨b, off, none⟩ ∧ ∀ i x, l[i]? = some x → ∃ r, r.length = k ∧ R w r x ∧ ∀ j v, r[j]? = some v → w.cell? ⟨b, off + i * k + j, none⟩ = some v)
section
variable {α : Type} {k : Nat} {R : Rl α}
theorem SR.ext (hR : Stb R) {w w' : World} {a : Option Addr} {n : Nat} {l : List α} (h : SR k R w a n l) (hx : Ext w w') : SR k R w' a n l := by
  obtain ⟨h1, h2, h4⟩ := h
  refine ⟨h1, h2, ?_⟩
  rcases h4 with h0 | ⟨b, off, ha, hc⟩
  · exact .inl h0
  · refine .inr ⟨b, off, ha, fun i x hi => ?_⟩
    obtain ⟨r, q1, q2, q3⟩ := hc i x hi
    exact ⟨r, q1, hR _ _ _ _ hx q2, fun j v hj => hx _ _ (q3 j v hj)⟩
theorem SR.below (hR : Stb R) {w w' : World} {a : Option Addr} {n : Nat} {l : List α} (h : SR k R w a n l) (hb : Below w.heap.size w w') : SR k R w' a n l := h.ext hR ((Ext.refl w).below hb)
theorem SR.nil (w : World) (p : Option Addr) : SR k R w p 0 [] := ⟨rfl, by decide, .inl rfl⟩
theorem SR.addr {w : World} {a : Option Addr} {n : Nat} {l : List α} (h : SR k R w a n l) (hn : 0 < n) : ∃ b off, a = some ⟨b, off, none⟩ := by
  rcases h.2.2 with h0 | ⟨b, off, ha, _⟩
  · omega
  · exact ⟨b, off, ha⟩
theorem SR.at {w : World} {b off n : Nat} {l : List α} (h : SR k R w (some ⟨b, off, none⟩) n l) (i : Nat) (hi : i < n) : ∃ x r, l[i]? = some x ∧ r.length = k ∧ R w r x ∧ ∀ j v, r[j]? = some v → w.cell? ⟨b, off + i * k + j, none⟩ = some v := by
  rcases h.2.2 with h0 | ⟨b', off', ha, hc⟩
  · omega
  · cases ha
    have hx : l[i]? = some (l[i]'(by rw [h.1]; exact hi)) := List.getElem?_eq_getElem _
    obtain ⟨r, q⟩ := hc i _ hx
    exact ⟨_, r, hx, q⟩
theorem SR.len {w : World} {a : Option Addr} {n : Nat} {l : List α} (h : SR k R w a n l) : l.length = n := h.1
theorem SR.max {w : World} {a : Option Addr} {n : Nat} {l : List α} (h : SR k R w a n l) : n ≤ maxLen := h.2.1
end
/-- What may come in of a type stands for something. -/
def Opens {α : Type} (T : TypeId) (R : Rl α) : Prop := ∀ (H : Type) (enc : TypeId × Value → H) (W : World) (fuel : Nat) (cs : List Value) (y : DataW H × List MemPlace), DataW.trod enc Tryd.prog W 0 (fun _ => true) true fuel T cs = some y → ∃ x, R W cs x
theorem Opens.slice {α : Type} {T E : TypeId} {R : Rl α} {k : Nat} (hu : Tryd.prog.underlying T = some (.slice E)) (hk : Tryd.prog.cellsOf E = k) (hk0 : 0 < k) (hE : Opens E R) (d : α) :
    Opens T (fun w cs (l : List α) => ∃ a n cap, cs = [.slice a n cap] ∧ SR k R w a n l ∧ CP a n cap) := by
  intro H enc W fuel cs y h
  rcases Deep.open_slice hu h with ⟨hcs, _⟩ | ⟨a, len, cap, m, n, D, Pl, hcs, _, hl, hm, hmm, _, hx⟩
  · exact ⟨[], _, _, _, hcs, SR.nil _ _, Nat.le_refl _, by decide, fun _ => rfl⟩
  · have hmm' : m = cap := by simpa using hmm
    subst hmm'
    rw [hk] at hx
    have each : ∀ i, i < len → ∃ p : α × List Value, p.2.length = k ∧ R W p.2 p.1 ∧ ∀ j u, p.2[j]? = some u → W.cell? (a.add (i * k + j)) = some u := by
      intro i hi
      obtain ⟨cs', h1, h2⟩ := hx i (by omega)
      obtain ⟨_, hlen, hcell⟩ := World.cells?_some h1
      obtain ⟨x, he⟩ := hE _ _ _ _ _ _ h2
      refine ⟨(x, cs'), hlen, he, fun j u hj => ?_⟩
      have hj4 : j < k := by have := (List.getElem?_eq_some_iff.1 hj).1; simp only [] at this; omega
      have q := hcell j hj4
      rw [Deep.add_add] at q
      rw [q]
      exact hj
    have hf : ∃ f : Nat → α × List Value, ∀ i, i < len → (f i).2.length = k ∧ R W (f i).2 (f i).1 ∧ ∀ j u, (f i).2[j]? = some u → W.cell? (a.add (i * k + j)) = some u := by
      refine ⟨fun i => if h : i < len then Classical.choose (each i h) else (d, []), fun i hi => ?_⟩
      have := Classical.choose_spec (each i hi)
      simpa [hi] using this
    obtain ⟨f, hf⟩ := hf
    refine ⟨(List.range len).map (fun i => (f i).1), _, _, _, hcs, ⟨by simp, by omega, ?_⟩, hl, hm, fun h => by cases h⟩
    rcases Nat.eq_zero_or_pos len with h0 | hp
    · exact .inl h0
    · obtain ⟨b, off, spot⟩ := a
      have hspot : spot = none := by
        obtain ⟨q1, _, q3⟩ := hf 0 hp
        have := q3 0 ((f 0).2[0]'(by omega)) (List.getElem?_eq_getElem _)
        simpa [Addr.add] using World.cell?_spot this
      subst hspot
      refine .inr ⟨b, off, rfl, fun i x hi => ?_⟩
      have hil : i < len := by have := (List.getElem?_eq_some_iff.1 hi).1; simpa using this
      have hxf : x = (f i).1 := by simpa [hil] using hi.symm
      subst hxf
      obtain ⟨q1, q2, q3⟩ := hf i hil
      refine ⟨(f i).2, q1, q2, fun j v hj => ?_⟩
      have q := q3 j v hj
      rw [addr_add] at q
      rw [Nat.add_assoc]
      exact q
/-- Bytes, numbers, a number, a text as rows. -/
def bytesR : Rl (List Int) := fun w cs l => ∃ a n cap, cs = [.slice a n cap] ∧ BS w a n l ∧ CP a n cap
def numsR : Rl (List Int) := fun w cs l => ∃ a n cap, cs = [.slice a n cap] ∧ NS w a n l ∧ CP a n cap
def intR : Rl Int := fun _ cs x => cs = [.int .i64 x]
def boolR : Rl Bool := fun _ cs x => cs = [.bool x]
def strR : Rl ByteArray := fun _ cs x => cs = [.string x]
theorem bytesR.stb : Stb bytesR := fun w w' r x hx ⟨a, n, cap, h1, h2, h3⟩ => ⟨a, n, cap, h1, h2.ext hx, h3⟩
theorem numsR.stb : Stb numsR := fun w w' r x hx ⟨a, n, cap, h1, h2, h3⟩ => ⟨a, n, cap, h1, h2.ext hx, h3⟩
theorem intR.stb : Stb intR := fun _ _ _ _ _ h => h
theorem boolR.stb : Stb boolR := fun _ _ _ _ _ h => h
theorem strR.stb : Stb strR := fun _ _ _ _ _ h => h
theorem Opens.int {T : TypeId} (hu : Tryd.prog.underlying T = some (.int .i64)) : Opens T intR := by
  intro H enc W fuel cs y h
  obtain ⟨a, h0, _, _⟩ := DataW.trod_int hu h
  exact ⟨a, h0⟩
theorem Opens.bool {T : TypeId} (hu : Tryd.prog.underlying T = some .bool) : Opens T boolR := by
  intro H enc W fuel cs y h
  obtain ⟨a, h0, _⟩ := DataW.trod_bool hu h
  exact ⟨a, h0⟩
theorem Opens.string {T : TypeId} (hu : Tryd.prog.underlying T = some .string) : Opens T strR := by
  intro H enc W fuel cs y h
  obtain ⟨a, h0, _, _⟩ := DataW.trod_string hu h
  exact ⟨a, h0⟩
theorem Opens.bytes {T E : TypeId} (hu : Tryd.prog.underlying T = some (.slice E)) (hE : Tryd.prog.underlying E = some (.int .u8)) (hk : Tryd.prog.cellsOf E = 1) : Opens T bytesR := by
  intro H enc W fuel cs y h
  rcases open_ints hu hE hk h with ⟨hcs, _⟩ | ⟨x, l, c, zs, hcs, _, hl, hm, hz, hx, hcell, hwz⟩
  · exact ⟨[], _, _, _, hcs, BS.nil _ _, Nat.le_refl _, by decide, fun _ => rfl⟩
  · simp at hz
    exact ⟨zs.take l, _, _, _, hcs, bs_of_cells hl hm hz (fun i hi => hcell i (by omega)) hwz, hl, hm, fun h => by cases h⟩
theorem Opens.nums {T E : TypeId} (hu : Tryd.prog.underlying T = some (.slice E)) (hE : Tryd.prog.underlying E = some (.int .i64)) (hk : Tryd.prog.cellsOf E = 1) : Opens T numsR := by
  intro H enc W fuel cs y h
  rcases open_ints hu hE hk h with ⟨hcs, _⟩ | ⟨x, l, c, zs, hcs, _, hl, hm, hz, hx, hcell, hwz⟩
  · exact ⟨[], _, _, _, hcs, NS.nil _ _, Nat.le_refl _, by decide, fun _ => rfl⟩
  · simp at hz
    exact ⟨zs.take l, _, _, _, hcs, ns_of_cells hl hm hz (fun i hi => hcell i (by omega)), hl, hm, fun h => by cases h⟩
set_option maxRecDepth 100000 in
/-- A parameter that is a slice. -/
theorem Opens.in {α : Type} {T E : TypeId} {R : Rl α} (hu : Tryd.prog.underlying T = some (.slice E)) (hO : Opens T R) {H : Type} {enc : TypeId × Value → H} {W : World} {v : Value} {d : DataW H} {p : List MemPlace} {base : Nat} (hok : Value.okWide Tryd.prog W .any base T v) (h : DataW.Trod enc Tryd.prog W 0 (fun _ => true) true T v d p) : ∃ x, R W [v] x := by
  obtain ⟨a, len, cap, rfl⟩ := okWide_slice hu hok
  obtain ⟨fuel, hf⟩ := h
  exact hO _ _ _ _ _ _ hf
end Go.Proofs.YtadmibfnjhockaaDoor
