/- Dots added one by one, in whatever order; bytes that came in. -/
import Derived.Test.YtccpbkemiilgcaaDVar
import Derived.Test.YtccpbkemiilgcaaDLaw
namespace Go.Proofs.Ytccpbkemiilgcaa
open Go.RowKit Go.ChangeShapes Go.WideShapes
set_option linter.unusedVariables false

/-- Bytes that came in. -/
def InU (w : World) (v : Value) : Prop := ∃ a len cap l, v = .slice a len cap ∧ BS w a len l ∧ CP a len cap
theorem byte_wf1 {n : Int} (h : (Lit.int .u8 n).wf = true) : 0 ≤ n ∧ n < 256 := by
  simp [Lit.wf, IntKind.min, IntKind.max, IntKind.bits, IntKind.signed] at h
  omega
set_option maxRecDepth 100000 in
theorem in_u8s {H : Type} {enc : TypeId × Value → H} {W : World} {v : Value} {d : DataW H} {p : List MemPlace} {base : Nat} (hok : Value.okWide Try.prog W .any base 45 v) (h : DataW.Trod enc Try.prog W 0 (fun _ => true) true 45 v d p) (hw : ∀ n ∈ d.weights Try.prog 45, n ≤ reachBytes) : InU W v := by
  obtain ⟨a, len, cap, rfl⟩ := okWide_slice Try.underlying45 hok
  obtain ⟨fuel, hf⟩ := h
  rcases open_ints Try.underlying45 Try.underlying5 (by kernel_rfl) hf with ⟨hcs, _⟩ | ⟨x, l, c, zs, hcs, _, hl, hm, hz, hx, hcell, hwz⟩
  · simp [Value.cells] at hcs
    obtain ⟨rfl, rfl, rfl⟩ := hcs
    exact ⟨_, _, _, [], rfl, BS.nil _ _, Nat.le_refl _, by decide, fun _ => rfl⟩
  · simp [Value.cells] at hcs
    obtain ⟨rfl, rfl, rfl⟩ := hcs
    simp at hz
    refine ⟨_, _, _, zs.take len, rfl, ⟨by rw [List.length_take]; omega, by omega, fun n hn => byte_wf1 (hwz n (List.mem_of_mem_take hn)), ?_⟩, hl, hm, fun h => by cases h⟩
    rcases Nat.eq_zero_or_pos len with h0 | hp
    · exact .inl h0
    · obtain ⟨b, off, spot⟩ := x
      have hspot : spot = none := by simpa [Addr.add] using World.cell?_spot (hcell 0 (by omega))
      subst hspot
      refine .inr ⟨b, off, rfl, fun i hi => ?_⟩
      have h1 := hcell i (by omega)
      have h2 : (zs.take len).getD i 0 = zs.getD i 0 := by simp [List.getD_eq_getElem?_getD, hi]
      rw [h2]
      by_cases hi0 : i = 0
      · subst hi0; simpa [Addr.add] using h1
      · simpa [Addr.add, hi0] using h1

/-- What is seen, and what is left, is all. -/
def InvO (l : List Dot) (S : Sn) (left : List Dot) : Prop := GoodX S ∧ (∀ d, mayD d = true → ((hasX S d ∨ d ∈ left) ↔ d ∈ l)) ∧ (∀ x ∈ left, mayD x = true) ∧ S.2.length + left.length ≤ 30
theorem invO_start {l : List Dot} (hl : l.all mayD = true) (hn : l.length ≤ 30) : InvO l (vec [], []) l := by
  refine ⟨⟨vec_bdX [], by simp [SrtD], by simp⟩, fun d hd => ?_, fun x hx => List.all_eq_true.1 hl x hx, by simpa using hn⟩
  constructor
  · rintro (h | h)
    · rcases h with h | h
      · have hm := mayD_iff.1 hd
        have h0 : numX (vec []) d = 0 := by
          rw [numX_getZ [] hd]
          unfold getZ
          rw [if_pos ⟨hm.1, hm.2.1⟩]
          unfold at5
          simp [mayC]
        have h' : d.2 ≤ numX (vec []) d := h
        omega
      · cases h
    · exact h
  · exact fun h => .inr h
theorem mem_split {left : List Dot} {k : Nat} (hk : k < left.length) (d : Dot) : d ∈ left ↔ d = left.getD k (0, 0) ∨ d ∈ left.take k ++ left.drop (k + 1) := by
  have e : left = left.take k ++ left.getD k (0, 0) :: left.drop (k + 1) := by
    have h1 := List.take_append_drop k left
    rw [List.drop_eq_getElem_cons hk] at h1
    have h2 : left.getD k (0, 0) = left[k] := by simp [List.getD_eq_getElem?_getD, hk]
    rw [h2]
    exact h1.symm
  rw [List.mem_append]
  constructor
  · intro h
    rw [e, List.mem_append, List.mem_cons] at h
    rcases h with h | h | h
    · exact .inr (.inl h)
    · exact .inl h
    · exact .inr (.inr h)
  · intro h
    rw [e, List.mem_append, List.mem_cons]
    rcases h with h | h | h
    · exact .inr (.inl h)
    · exact .inl h
    · exact .inr (.inr h)
theorem invO_step {l left : List Dot} {S : Sn} {k : Nat} (h : InvO l S left) (hk : k < left.length) : InvO l (addR S (left.getD k (0, 0))) (left.take k ++ left.drop (k + 1)) := by
  obtain ⟨h1, h2, h3, h4⟩ := h
  have hx := h3 _ (getDot_mem hk)
  have g := addR_good h1 hx
  refine ⟨g.1, fun d hd => ?_, fun x hxx => h3 x ((mem_split hk x).2 (.inr hxx)), ?_⟩
  · rw [← h2 d hd, g.2 d hd, mem_split hk d]
    constructor
    · rintro ((q | q) | q)
      · exact .inl q
      · exact .inr (.inl q)
      · exact .inr (.inr q)
    · rintro (q | q | q)
      · exact .inl (.inl q)
      · exact .inl (.inr q)
      · exact .inr q
  · have := addR_len S (left.getD k (0, 0))
    rw [List.length_append, List.length_take, List.length_drop]
    omega
theorem seenB_nil : seenB [] [] = true := by decide
theorem invO_end {l : List Dot} {S : Sn} (hl : l.all mayD = true) (h : InvO l S []) : S = addF [] [] l ∧ seenB (pln S.1) S.2 = true ∧ ∀ d, mayD d = true → hasB (pln S.1) S.2 d = decide (d ∈ l) := by
  obtain ⟨h1, h2, _, h4⟩ := h
  have hv : vec (pln S.1) = S.1 := vec_pln S.1 h1.1.1 h1.1.2
  have hh : ∀ d, mayD d = true → (hasX S d ↔ d ∈ l) := fun d hd => by rw [← h2 d hd]; simp
  have ha := addF_is seenB_nil hl
  have hA := addsR (s := (vec [], [])) (fun x hx => List.all_eq_true.1 hl x hx) (seen_good seenB_nil).1
  refine ⟨good_ext h1 ha.2 fun d hd => ?_, good_seen h1 (by simp at h4; omega), fun d hd => ?_⟩
  · rw [hh d hd, ha.1, hA.2 d hd]
    constructor
    · exact fun q => .inr q
    · rintro (q | q)
      · have i0 := invO_start (l := []) (by simp) (by simp)
        have := (i0.2.1 d hd).1 (.inl q)
        cases this
      · exact q
  · rw [Bool.eq_iff_iff, hasB_iff, hv, decide_eq_true_iff, ← hh d hd]
    exact ⟨fun q => q.2, fun q => ⟨hd, q⟩⟩
theorem VS.below {u wr w' : World} {S : Sn} (h : VS u S wr) (hb : Below wr.heap.size wr w') : VS u S w' := by
  obtain ⟨h1, p1, k1, c1, p2, k2, c2, h2, h3, h4, h5, h6, h7, h8⟩ := h
  exact ⟨bel_next h1 hb, p1, k1, c1, p2, k2, c2, by rw [hb.block _ (Array.getElem?_eq_some_iff.1 h2).1]; exact h2, h3.below hb, h4, h5.below hb, h6, h7, h8⟩
/-- 'Add' of one dot. -/
theorem addF_one {S : Sn} (h : GoodX S) (hl : S.2.length ≤ 1000) {x : Dot} (hx : mayD x = true) : addF (pln S.1) S.2 [x] = addR S x := by
  have hv : vec (pln S.1) = S.1 := vec_pln S.1 h.1.1 h.1.2
  have ha := (addF_is (c := pln S.1) (m := S.2) (l := [x]) (good_seen h hl) (by simp [hx])).1
  rw [ha, hv]
  rfl
theorem DS.mid {w : World} {g : Nat} {n : Nat} {l : List Dot} {off : Nat} (h : DS w (some ⟨g, off, none⟩) n l) (k : Nat) (hk : k < n) : DS w (some ⟨g, off + k * 2, none⟩) (n - k) (l.drop k) := by
  obtain ⟨g1, g2, g4⟩ := h
  refine ⟨by rw [List.length_drop]; omega, by omega, .inr ⟨g, off + k * 2, rfl, fun i hi => ?_⟩⟩
  rcases g4 with h0 | ⟨b, o, hh, hc⟩
  · omega
  · cases hh
    have e : (l.drop k).getD i (0, 0) = l.getD (k + i) (0, 0) := by simp [List.getD_eq_getElem?_getD]
    have q := hc (k + i) (by omega)
    rw [e, show off + k * 2 + i * 2 = off + (k + i) * 2 by omega]
    exact q
end Go.Proofs.Ytccpbkemiilgcaa
