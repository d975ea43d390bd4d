/- What a statement is told of bytes and of texts that came in, in the words of the walks; with the reach of the form (no row of more than 'reachBytes' bytes). -/
import Derived.Test.YtbeknlpoialgiaaWAwake
import Derived.SizedLaws
import Derived.Deep.Matrix
import Derived.OpenShut
import Derived.ProofKit
namespace Go.Proofs.Ytbeknlpoialgiaa
open Go.RowKit Go.ChangeShapes Go.WideShapes
set_option linter.unusedVariables false

/-- Bytes that came in. -/
def InB (w : World) (v : Value) : Prop := ∃ a len cap l, v = .slice a len cap ∧ BS w a len l ∧ CP a len cap ∧ len ≤ 140737488351232
/-- Texts that came in. -/
def InT (w : World) (v : Value) : Prop := ∃ a n cap ps, v = .slice a n cap ∧ PC w a n ps ∧ CP a n cap ∧ n ≤ 140737488351232 ∧ ∀ p ∈ ps, p.length ≤ 140737488351232

set_option maxRecDepth 100000 in
theorem byte_wf {n : Int} (h : (Lit.int .u8 n).wf = true) : 0 ≤ n ∧ n < 256 := by
  simp [Lit.wf, IntKind.min, IntKind.max, IntKind.bits, IntKind.signed] at h
  omega
set_option maxRecDepth 100000 in
theorem bs_of_cells {w : World} {x : Addr} {len cap : Nat} {zs : List Int} (hl : len ≤ cap) (hm : cap ≤ maxLen) (hz : zs.length = cap) (hcell : ∀ i, i < cap → w.cell? (x.add i) = some (.int .u8 (zs.getD i 0))) (hwz : ∀ n ∈ zs, (Lit.int .u8 n).wf = true) :
    BS w (some x) len (zs.take len) := by
  refine ⟨by rw [List.length_take]; omega, by omega, fun n hn => byte_wf (hwz n (List.mem_of_mem_take hn)), ?_⟩
  rcases Nat.eq_zero_or_pos len with h0 | hp
  · exact .inl h0
  · obtain ⟨b, off, spot⟩ := x
    have hspot : spot = none := by simpa [Addr.add] using World.cell?_spot (hcell 0 (by omega))
    subst hspot
    refine .inr ⟨b, off, rfl, fun i hi => ?_⟩
    have h1 := hcell i (by omega)
    have h2 : (zs.take len).getD i 0 = zs.getD i 0 := by simp [List.getD_eq_getElem?_getD, hi]
    rw [h2]
    by_cases hi0 : i = 0
    · subst hi0; simpa [Addr.add] using h1
    · simpa [Addr.add, hi0] using h1

set_option maxRecDepth 100000 in
theorem Try.bytesU8 : Try.prog.bytesOf 5 = 1 := by kernel_rfl
set_option maxRecDepth 100000 in
theorem Try.bytesTx : Try.prog.bytesOf 40 = 24 := by kernel_rfl

section
variable {H : Type} {enc : TypeId × Value → H} {W : World}

set_option maxRecDepth 100000 in
theorem in_bytes {v : Value} {d : DataW H} {p : List MemPlace} {base : Nat} (hok : Value.okWide Try.prog W .any base 40 v) (h : DataW.Trod enc Try.prog W 0 (fun _ => true) true 40 v d p) (hw : ∀ n ∈ d.weights Try.prog 40, n ≤ reachBytes) : InB W v := by
  obtain ⟨a, len, cap, rfl⟩ := okWide_slice Try.underlying40 hok
  obtain ⟨fuel, hf⟩ := h
  rcases open_ints Try.underlying40 Try.underlying5 (by kernel_rfl) hf with ⟨hcs, _⟩ | ⟨x, l, c, zs, hcs, _, hl, hm, hz, hx, hcell, hwz⟩
  · simp [Value.cells] at hcs
    obtain ⟨rfl, rfl, rfl⟩ := hcs
    exact ⟨_, _, _, [], rfl, BS.nil _ _, ⟨Nat.le_refl _, by decide, fun _ => rfl⟩, by omega⟩
  · simp [Value.cells] at hcs
    obtain ⟨rfl, rfl, rfl⟩ := hcs
    simp at hz
    simp only [Prod.mk.injEq] at hx
    obtain ⟨rfl, _⟩ := hx
    have h1 := hw ((zs.take len).length + (zs.drop len).length) (by simp [DataW.weights, Try.underlying40, Try.bytesU8, lits])
    have h2 : reachBytes = 140737488351232 := rfl
    rw [← List.length_append, List.take_append_drop, h2] at h1
    exact ⟨_, _, _, zs.take len, rfl, bs_of_cells hl hm hz (fun i hi => hcell i (by omega)) hwz, ⟨hl, hm, fun h => by cases h⟩, by omega⟩

set_option maxRecDepth 100000 in
theorem mem_weightsAll {P : Program} {e : TypeId} {n : Nat} : ∀ {ds : List (DataW H)} {d : DataW H}, d ∈ ds → n ∈ d.weights P e → n ∈ DataW.weightsAll P e ds
  | d0 :: r, d, hd, hn => by
    simp only [DataW.weightsAll, List.mem_append]
    rcases List.mem_cons.1 hd with rfl | hd
    · exact .inl hn
    · exact .inr (mem_weightsAll hd hn)

set_option maxRecDepth 100000 in
theorem in_texts {v : Value} {d : DataW H} {p : List MemPlace} {base : Nat} (hok : Value.okWide Try.prog W .any base 57 v) (h : DataW.Trod enc Try.prog W 0 (fun _ => true) true 57 v d p) (hw : ∀ n ∈ d.weights Try.prog 57, n ≤ reachBytes) : InT W v := by
  obtain ⟨a, len, cap, rfl⟩ := okWide_slice Try.underlying57 hok
  obtain ⟨fuel, hf⟩ := h
  have h2 : reachBytes = 140737488351232 := rfl
  rcases Deep.open_int_rows Try.underlying57 Try.underlying40 Try.underlying5 (by kernel_rfl) (by kernel_rfl) hf with ⟨hcs, _⟩ | ⟨x, l, c, A, L, C, Z, hcs, _, hl, hm, hx, hrow⟩
  · simp [Value.cells] at hcs
    obtain ⟨rfl, rfl, rfl⟩ := hcs
    exact ⟨_, _, _, [], rfl, ⟨rfl, by decide, .inl rfl⟩, ⟨Nat.le_refl _, by decide, fun _ => rfl⟩, by omega, fun p hp => by cases hp⟩
  · simp [Value.cells] at hcs
    obtain ⟨rfl, rfl, rfl⟩ := hcs
    simp only [Prod.mk.injEq] at hx
    obtain ⟨rfl, _⟩ := hx
    have hlen : len * 24 ≤ reachBytes := by
      have h1 := hw ((len + (cap - len)) * 24) (by simp [DataW.weights, Try.underlying57, Try.bytesTx])
      have : len * 24 ≤ (len + (cap - len)) * 24 := Nat.mul_le_mul_right _ (by omega)
      omega
    have hZ : ∀ r, r < len → (Z r).length ≤ reachBytes := by
      intro r hr
      obtain ⟨_, q1, q2, q3, _, q5, _⟩ := hrow r (by omega)
      rcases hAr : A r with _ | x'
      · have := q5 hAr; omega
      · refine hw _ ?_
        have hm : (Z r).length ∈ (Deep.intRow (H := H) .u8 (A r) (L r) (Z r)).weights Try.prog 40 := by
          rw [hAr]
          have : (Z r).length = ((Z r).take (L r)).length + ((Z r).drop (L r)).length := by rw [← List.length_append, List.take_append_drop]
          simp [Deep.intRow, DataW.weights, Try.underlying40, Try.bytesU8, lits]
          omega
        simp only [DataW.weights, Try.underlying57, List.mem_cons, List.mem_append]
        refine .inr (.inl (mem_weightsAll ?_ hm))
        exact List.mem_map.2 ⟨r, by simpa using hr, rfl⟩
    refine ⟨_, _, _, (List.range len).map fun r => (Z r).take (L r), rfl, ⟨by simp, by omega, ?_⟩, ⟨hl, hm, fun h => by cases h⟩, by omega, ?_⟩
    · rcases Nat.eq_zero_or_pos len with h0 | hp
      · exact .inl h0
      · obtain ⟨b, off, spot⟩ := x
        have hspot : spot = none := by simpa [Addr.add] using World.cell?_spot (hrow 0 (by omega)).1
        subst hspot
        refine .inr ⟨b, off, rfl, fun i hi => ?_⟩
        obtain ⟨q0, q1, q2, q3, q4, q5, q6⟩ := hrow i (by omega)
        refine ⟨A i, L i, C i, ?_, ?_, ⟨q1, q2, q5⟩⟩
        · by_cases hi0 : i = 0
          · subst hi0; simpa [Addr.add] using q0
          · simpa [Addr.add, hi0] using q0
        · have e : ((List.range len).map fun r => (Z r).take (L r)).getD i [] = (Z i).take (L i) := by simp [List.getD_eq_getElem?_getD, hi]
          rw [e]
          rcases hAi : A i with _ | x'
          · have := q5 hAi
            have hL0 : L i = 0 := by omega
            rw [hL0]; exact BS.nil _ _
          · exact bs_of_cells q1 q2 q3 (fun c hc => (q6 x' hAi).2 c hc) q4
    · intro p hp
      obtain ⟨r, hr, rfl⟩ := List.mem_map.1 hp
      have := hZ r (by simpa using hr)
      rw [List.length_take]
      omega
end
end Go.Proofs.Ytbeknlpoialgiaa
