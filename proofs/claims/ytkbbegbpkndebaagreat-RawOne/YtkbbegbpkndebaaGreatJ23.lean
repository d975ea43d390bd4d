/- Texts of this claim, joined: GE5, GE8. -/
import Derived.Test.YtkbbegbpkndebaaGreatJ22
/- What comes into layer 11's statements. -/
namespace Go.Proofs.YtkbbegbpkndebaaGreat
open Go.RowKit Go.ChangeShapes Go.WideShapes
set_option linter.unusedVariables false
def accR : Rl Ac := fun _ cs x => cs = encA x ∧ x.2.length = 5
theorem Tryz.cellsAcc : Tryz.prog.cellsOf 134 = 6 := by kernel_rfl
theorem Tryz.cellsH5 : Tryz.prog.cellsOf 132 = 5 := by kernel_rfl
theorem Tryz.cellsI11 : Tryz.prog.cellsOf 3 = 1 := by kernel_rfl
theorem Tryz.cellsS11 : Tryz.prog.cellsOf 9 = 1 := by kernel_rfl
theorem Tryz.arr5 : Tryz.prog.underlying 132 = some (.array 5 3) := by kernel_rfl
theorem len6A {α : Type} (l : List α) (h : l.length = 6) : ∃ a b c d e f, l = [a, b, c, d, e, f] := by
  match l, h with
  | [a, b, c, d, e, f], _ => exact ⟨a, b, c, d, e, f, rfl⟩
theorem len5A {α : Type} (l : List α) (h : l.length = 5) : ∃ a b c d e, l = [a, b, c, d, e] := by
  match l, h with
  | [a, b, c, d, e], _ => exact ⟨a, b, c, d, e, rfl⟩
set_option maxRecDepth 100000 in
theorem open_acc : Opens 134 accR := by
  intro H enc W fuel cs y h
  obtain ⟨xs, k, hk, hxy, hcl, hxl, hf⟩ := DataW.trod_struct Tryz.underlying134 h
  rw [Tryz.cellsAcc] at hcl
  obtain ⟨v0, v1, v2, v3, v4, v5, rfl⟩ := len6A cs hcl
  obtain ⟨y0, y1, rfl⟩ := len2T xs hxl
  have g0 : DataW.trod enc Tryz.prog W 0 (fun _ => true) true k 9 (([v0, v1, v2, v3, v4, v5].drop 0).take (Tryz.prog.cellsOf 9)) = some y0 := hf 0 _ rfl
  have g1 : DataW.trod enc Tryz.prog W 0 (fun _ => true) true k 132 (([v0, v1, v2, v3, v4, v5].drop 1).take (Tryz.prog.cellsOf 132)) = some y1 := hf 1 _ rfl
  rw [Tryz.cellsS11] at g0
  rw [Tryz.cellsH5] at g1
  obtain ⟨zs, m, hm, hz, hzl, hzn, hz5⟩ := DataW.trod_array Tryz.arr5 g1
  obtain ⟨z0, z1, z2, z3, z4, rfl⟩ := len5A zs hzn
  obtain ⟨a0, h0⟩ := Opens.string Tryz.underlying9 _ _ _ _ _ _ g0
  have one : ∀ (i : Nat) (v : Value) (z : DataW H × List MemPlace), i < 5 → [v1, v2, v3, v4, v5][i]? = some v → [z0, z1, z2, z3, z4][i]? = some z → ∃ x : Int, v = .int .i64 x := by
    intro i v z hi hv hzz
    have q := hz5 i hi
    rw [hzz, Tryz.cellsI11] at q
    obtain ⟨x, hx⟩ := Opens.int Tryz.underlying3 _ _ _ _ _ _ q
    refine ⟨x, ?_⟩
    rcases (by omega : i = 0 ∨ i = 1 ∨ i = 2 ∨ i = 3 ∨ i = 4) with rfl | rfl | rfl | rfl | rfl <;> simp at hv <;> subst hv <;> simpa [intR] using hx
  obtain ⟨x1, rfl⟩ := one 0 _ _ (by omega) rfl rfl
  obtain ⟨x2, rfl⟩ := one 1 _ _ (by omega) rfl rfl
  obtain ⟨x3, rfl⟩ := one 2 _ _ (by omega) rfl rfl
  obtain ⟨x4, rfl⟩ := one 3 _ _ (by omega) rfl rfl
  obtain ⟨x5, rfl⟩ := one 4 _ _ (by omega) rfl rfl
  simp [strR] at h0
  exact ⟨(a0, [x1, x2, x3, x4, x5]), by rw [h0]; rfl, rfl⟩
theorem SR.ac {w : World} {a : Option Addr} {n : Nat} {s : List Ac} (h : SR 6 accR w a n s) : AC w a n s := by
  obtain ⟨h1, h2, h3⟩ := h
  refine ⟨⟨h1, h2, h3.imp id ?_⟩, ?_⟩
  · rintro ⟨b, off, ha, hc⟩
    refine ⟨b, off, ha, fun i x hx j v hj => ?_⟩
    obtain ⟨r, _, hr, hcell⟩ := hc i x hx
    rw [hr.1] at hcell
    exact hcell j v hj
  · intro x hx
    rcases h3 with h0 | ⟨b, off, ha, hc⟩
    · rw [List.eq_nil_of_length_eq_zero (h1.trans h0)] at hx
      cases hx
    · obtain ⟨i, hi⟩ := List.mem_iff_getElem?.1 hx
      obtain ⟨r, _, hr, _⟩ := hc i x hi
      exact hr.2
end Go.Proofs.YtkbbegbpkndebaaGreat

/- What layer 11's functions tell. -/
namespace Go.Proofs.YtkbbegbpkndebaaGreat
open Go.RowKit Go.Lib
set_option linter.unusedVariables false
def chk11 (s : List Ac) : Int := if mayA s = true then 0 else 1
theorem chk11_yes {s : List Ac} (h : mayA s = true) : chk11 s = 0 := by unfold chk11; rw [if_pos h]
theorem chk11_no {s : List Ac} (h : mayA s = false) : chk11 s = 1 := by unfold chk11; rw [h]; rfl
end Go.Proofs.YtkbbegbpkndebaaGreat

