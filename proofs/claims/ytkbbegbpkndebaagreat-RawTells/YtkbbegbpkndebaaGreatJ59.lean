/- Texts of this claim, joined: GNo. -/
import Derived.Test.YtkbbegbpkndebaaGreatJ21
import Derived.Test.YtkbbegbpkndebaaGreatJ28
/- What comes into layer 12's statements. -/
namespace Go.Proofs.YtkbbegbpkndebaaGreat
open Go.RowKit Go.ChangeShapes Go.WideShapes
set_option linter.unusedVariables false
def notR : Rl Nt := fun _ cs x => cs = encNt x
theorem Tryz.cellsNot : Tryz.prog.cellsOf 111 = 4 := by kernel_rfl
theorem Tryz.cellsI12 : Tryz.prog.cellsOf 3 = 1 := by kernel_rfl
theorem Tryz.cellsS12 : Tryz.prog.cellsOf 9 = 1 := by kernel_rfl
theorem len4Nt {α : Type} (l : List α) (h : l.length = 4) : ∃ a b c d, l = [a, b, c, d] := by
 match l, h with
 | [a, b, c, d], _ => exact ⟨a, b, c, d, rfl⟩
set_option maxRecDepth 100000 in
theorem open_not : Opens 111 notR := by
 intro H enc W fuel cs y h
 obtain ⟨xs, k, hk, hxy, hcl, hxl, hf⟩ := DataW.trod_struct Tryz.underlying111 h
 rw [Tryz.cellsNot] at hcl
 obtain ⟨a0, a1, a2, a3, rfl⟩ := len4Nt cs hcl
 obtain ⟨y0, y1, y2, y3, rfl⟩ := len4Nt xs hxl
 have g0 : DataW.trod enc Tryz.prog W 0 (fun _ => true) true k 9 (([a0, a1, a2, a3].drop 0).take (Tryz.prog.cellsOf 9)) = some y0 := hf 0 _ rfl
 have g1 : DataW.trod enc Tryz.prog W 0 (fun _ => true) true k 3 (([a0, a1, a2, a3].drop 1).take (Tryz.prog.cellsOf 3)) = some y1 := hf 1 _ rfl
 have g2 : DataW.trod enc Tryz.prog W 0 (fun _ => true) true k 3 (([a0, a1, a2, a3].drop 2).take (Tryz.prog.cellsOf 3)) = some y2 := hf 2 _ rfl
 have g3 : DataW.trod enc Tryz.prog W 0 (fun _ => true) true k 9 (([a0, a1, a2, a3].drop 3).take (Tryz.prog.cellsOf 9)) = some y3 := hf 3 _ rfl
 rw [Tryz.cellsS12] at g0 g3
 rw [Tryz.cellsI12] at g1 g2
 obtain ⟨s0, h0⟩ := Opens.string Tryz.underlying9 _ _ _ _ _ _ g0
 obtain ⟨x1, h1⟩ := Opens.int Tryz.underlying3 _ _ _ _ _ _ g1
 obtain ⟨x2, h2⟩ := Opens.int Tryz.underlying3 _ _ _ _ _ _ g2
 obtain ⟨s3, h3⟩ := Opens.string Tryz.underlying9 _ _ _ _ _ _ g3
 simp [strR] at h0 h3
 simp [intR] at h1 h2
 exact ⟨(s0, x1, x2, s3), by rw [h0, h1, h2, h3]; rfl⟩
theorem SR.nn {w : World} {a : Option Addr} {n : Nat} {s : List Nt} (h : SR 4 notR w a n s) : NN w a n s := by
 obtain ⟨h1, h2, h3⟩ := h
 refine ⟨h1, h2, h3.imp id ?_⟩
 rintro ⟨b, off, ha, hc⟩
 refine ⟨b, off, ha, fun i x hx j v hj => ?_⟩
 obtain ⟨r, _, hr, hcell⟩ := hc i x hx
 rw [hr] at hcell
 exact hcell j v hj
end Go.Proofs.YtkbbegbpkndebaaGreat

