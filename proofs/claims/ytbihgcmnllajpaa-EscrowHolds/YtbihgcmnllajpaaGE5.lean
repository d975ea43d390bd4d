/- What comes into layer 11's statements. -/
import Derived.Test.YtbihgcmnllajpaaGE4
import Derived.Test.YtbihgcmnllajpaaGT3
namespace Go.Proofs.Ytbihgcmnllajpaa
open Go.RowKit Go.ChangeShapes Go.WideShapes
set_option linter.unusedVariables false
def accR : Rl Ac := fun _ cs x => cs = encA x ∧ x.2.length = 5
theorem Try.cellsAcc : Try.prog.cellsOf 52 = 6 := by kernel_rfl
theorem Try.cellsH5 : Try.prog.cellsOf 50 = 5 := by kernel_rfl
theorem Try.cellsI11 : Try.prog.cellsOf 3 = 1 := by kernel_rfl
theorem Try.cellsS11 : Try.prog.cellsOf 9 = 1 := by kernel_rfl
theorem Try.cellsDd11 : Try.prog.cellsOf 24 = 4 := by kernel_rfl
theorem Try.arr5 : Try.prog.underlying 50 = some (.array 5 3) := by kernel_rfl
theorem len6A {α : Type} (l : List α) (h : l.length = 6) : ∃ a b c d e f, l = [a, b, c, d, e, f] := by
  match l, h with
  | [a, b, c, d, e, f], _ => exact ⟨a, b, c, d, e, f, rfl⟩
theorem len5A {α : Type} (l : List α) (h : l.length = 5) : ∃ a b c d e, l = [a, b, c, d, e] := by
  match l, h with
  | [a, b, c, d, e], _ => exact ⟨a, b, c, d, e, rfl⟩
theorem len4A {α : Type} (l : List α) (h : l.length = 4) : ∃ a b c d, l = [a, b, c, d] := by
  match l, h with
  | [a, b, c, d], _ => exact ⟨a, b, c, d, rfl⟩
set_option maxRecDepth 100000 in
theorem open_acc : Opens 52 accR := by
  intro H enc W fuel cs y h
  obtain ⟨xs, k, hk, hxy, hcl, hxl, hf⟩ := DataW.trod_struct Try.underlying52 h
  rw [Try.cellsAcc] at hcl
  obtain ⟨v0, v1, v2, v3, v4, v5, rfl⟩ := len6A cs hcl
  obtain ⟨y0, y1, rfl⟩ := len2T xs hxl
  have g0 : DataW.trod enc Try.prog W 0 (fun _ => true) true k 9 (([v0, v1, v2, v3, v4, v5].drop 0).take (Try.prog.cellsOf 9)) = some y0 := hf 0 _ rfl
  have g1 : DataW.trod enc Try.prog W 0 (fun _ => true) true k 50 (([v0, v1, v2, v3, v4, v5].drop 1).take (Try.prog.cellsOf 50)) = some y1 := hf 1 _ rfl
  rw [Try.cellsS11] at g0
  rw [Try.cellsH5] at g1
  obtain ⟨zs, m, hm, hz, hzl, hzn, hz5⟩ := DataW.trod_array Try.arr5 g1
  obtain ⟨z0, z1, z2, z3, z4, rfl⟩ := len5A zs hzn
  obtain ⟨a0, h0⟩ := Opens.string Try.underlying9 _ _ _ _ _ _ g0
  have one : ∀ (i : Nat) (v : Value) (z : DataW H × List MemPlace), i < 5 → [v1, v2, v3, v4, v5][i]? = some v → [z0, z1, z2, z3, z4][i]? = some z → ∃ x : Int, v = .int .i64 x := by
    intro i v z hi hv hzz
    have q := hz5 i hi
    rw [hzz, Try.cellsI11] at q
    obtain ⟨x, hx⟩ := Opens.int Try.underlying3 _ _ _ _ _ _ q
    refine ⟨x, ?_⟩
    rcases (by omega : i = 0 ∨ i = 1 ∨ i = 2 ∨ i = 3 ∨ i = 4) with rfl | rfl | rfl | rfl | rfl <;> simp at hv <;> subst hv <;> simpa [intR] using hx
  obtain ⟨x1, rfl⟩ := one 0 _ _ (by omega) rfl rfl
  obtain ⟨x2, rfl⟩ := one 1 _ _ (by omega) rfl rfl
  obtain ⟨x3, rfl⟩ := one 2 _ _ (by omega) rfl rfl
  obtain ⟨x4, rfl⟩ := one 3 _ _ (by omega) rfl rfl
  obtain ⟨x5, rfl⟩ := one 4 _ _ (by omega) rfl rfl
  simp [strR] at h0
  exact ⟨(a0, [x1, x2, x3, x4, x5]), by rw [h0]; rfl, rfl⟩
theorem SR.ac {w : World} {a : Option Addr} {n : Nat} {s : List Ac} (h : SR 6 accR w a n s) : AC w a n s := by
  obtain ⟨h1, h2, h3⟩ := h
  refine ⟨⟨h1, h2, h3.imp id ?_⟩, ?_⟩
  · rintro ⟨b, off, ha, hc⟩
    refine ⟨b, off, ha, fun i x hx j v hj => ?_⟩
    obtain ⟨r, _, hr, hcell⟩ := hc i x hx
    rw [hr.1] at hcell
    exact hcell j v hj
  · intro x hx
    rcases h3 with h0 | ⟨b, off, ha, hc⟩
    · rw [List.eq_nil_of_length_eq_zero (h1.trans h0)] at hx
      cases hx
    · obtain ⟨i, hi⟩ := List.mem_iff_getElem?.1 hx
      obtain ⟨r, _, hr, _⟩ := hc i x hi
      exact hr.2
/-- Accounts that came in. -/
def InAc (w : World) (v : Value) : Prop := ∃ a n cap s, v = .slice a n cap ∧ AC w a n s ∧ CP a n cap
set_option maxRecDepth 100000 in
theorem in_accts {H : Type} {enc : TypeId × Value → H} {W : World} {v : Value} {d : DataW H} {p : List MemPlace} {base : Nat} (hok : Value.okWide Try.prog W .any base 22 v) (h : DataW.Trod enc Try.prog W 0 (fun _ => true) true 22 v d p) (hw : ∀ n ∈ d.weights Try.prog 22, n ≤ reachBytes) : InAc W v := by
  obtain ⟨l, a, n, cap, hv, h1, h2⟩ := Opens.in Try.underlying22 (Opens.slice Try.underlying22 Try.cellsAcc (by decide) open_acc (⟨#[]⟩, [])) hok h
  exact ⟨a, n, cap, l, by simpa using hv, h1.ac, h2⟩
/-- A deed that came in. -/
def InDd11 (w : World) (v : Value) : Prop := ∃ (t : ByteArray) (r q m : Int), v = .agg #[.string t, .int .i64 r, .int .i64 q, .int .i64 m]
set_option maxRecDepth 100000 in
theorem in_deed11 {H : Type} {enc : TypeId × Value → H} {W : World} {v : Value} {d : DataW H} {p : List MemPlace} {base : Nat} (hok : Value.okWide Try.prog W .any base 24 v) (h : DataW.Trod enc Try.prog W 0 (fun _ => true) true 24 v d p) (hw : ∀ n ∈ d.weights Try.prog 24, n ≤ reachBytes) : InDd11 W v := by
  obtain ⟨cs, rfl, hsz⟩ := okWide_struct Try.underlying24 hok
  obtain ⟨cs⟩ := cs
  obtain ⟨a0, a1, a2, a3, rfl⟩ := len4A cs (by simpa using hsz.trans Try.cellsDd11)
  obtain ⟨fuel, hf⟩ := h
  obtain ⟨xs, k, hk, hxy, hcl, hxl, hf⟩ := DataW.trod_struct Try.underlying24 (show DataW.trod enc Try.prog W 0 (fun _ => true) true fuel 24 [a0, a1, a2, a3] = some (d, p) from by simpa [Value.cells] using hf)
  obtain ⟨y0, y1, y2, y3, rfl⟩ := len4A xs hxl
  have g0 : DataW.trod enc Try.prog W 0 (fun _ => true) true k 9 (([a0, a1, a2, a3].drop 0).take (Try.prog.cellsOf 9)) = some y0 := hf 0 _ rfl
  have g1 : DataW.trod enc Try.prog W 0 (fun _ => true) true k 3 (([a0, a1, a2, a3].drop 1).take (Try.prog.cellsOf 3)) = some y1 := hf 1 _ rfl
  have g2 : DataW.trod enc Try.prog W 0 (fun _ => true) true k 3 (([a0, a1, a2, a3].drop 2).take (Try.prog.cellsOf 3)) = some y2 := hf 2 _ rfl
  have g3 : DataW.trod enc Try.prog W 0 (fun _ => true) true k 3 (([a0, a1, a2, a3].drop 3).take (Try.prog.cellsOf 3)) = some y3 := hf 3 _ rfl
  rw [Try.cellsS11] at g0
  rw [Try.cellsI11] at g1 g2 g3
  obtain ⟨s0, h0⟩ := Opens.string Try.underlying9 _ _ _ _ _ _ g0
  obtain ⟨x1, h1⟩ := Opens.int Try.underlying3 _ _ _ _ _ _ g1
  obtain ⟨x2, h2⟩ := Opens.int Try.underlying3 _ _ _ _ _ _ g2
  obtain ⟨x3, h3⟩ := Opens.int Try.underlying3 _ _ _ _ _ _ g3
  simp [strR] at h0
  simp [intR] at h1 h2 h3
  exact ⟨s0, x1, x2, x3, by rw [h0, h1, h2, h3]⟩
end Go.Proofs.Ytbihgcmnllajpaa
