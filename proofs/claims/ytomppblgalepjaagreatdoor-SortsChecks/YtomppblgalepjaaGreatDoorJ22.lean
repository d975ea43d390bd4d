/- Texts of this claim, joined: OD. -/
import Derived.Test.YtomppblgalepjaaGreatDoorJ21
/- Of which form clauses are, and whether one fits (the program's, layer 16). -/
namespace Go.Proofs.YtomppblgalepjaaGreatDoor
open Go.RowKit Go.Lib
set_option linter.unusedVariables false
set_option maxHeartbeats 2000000 in
theorem has16_0 (D k : Nat) (h : Int × Int × Int) (x : Sn16) (c : Int) (w : World) (hS : SN w D h k x) : Calls Tryz.prog 77 #[.pointer (some ⟨D + 3, 0, none⟩), .int .i64 0, .int .i64 c] w fun e w' => e = .returned (.bool (decide (c = 0))) ∧ Below w.heap.size w w' := by
 by_cases h0 : c = 0
 ·subst h0
  go_enter Tryz.func77, Tryz.ntmps77
  go_wp2
  go_ret
  exact ⟨rfl, Below.refl _ _⟩
 ·have HR := hide (decide_eq_false h0)
  have b0 : (c == 0) = false := by simpa using h0
  clear h0
  go_enter Tryz.func77, Tryz.ntmps77
  go_wp2
  go_ret
  exact ⟨by rw [HR.out]; rfl, Below.refl _ _⟩
set_option maxHeartbeats 2000000 in
theorem has16_1 (D k : Nat) (h : Int × Int × Int) (x : Sn16) (c : Int) (w : World) (hS : SN w D h k x) : Calls Tryz.prog 77 #[.pointer (some ⟨D + 3, 0, none⟩), .int .i64 1, .int .i64 c] w fun e w' => e = .returned (.bool (inR c h.1)) ∧ Below w.heap.size w w' := by
 have c1 : w.cell? ⟨D + 3, 1, none⟩ = some (.int .i64 h.1) := hS.1.cell 1 _ rfl
 clear hS
 generalize h.1 = n at *
 by_cases h1 : 0 ≤ c
 ·by_cases h2 : c < n
  ·have HR : Hid (inR c n = true) := by unfold Hid inR; exact decide_eq_true ⟨h1, h2⟩
   go_enter Tryz.func77, Tryz.ntmps77
   go_wp2
   go_ret
   exact ⟨by rw [HR.out]; rfl, Below.refl _ _⟩
  ·have HR : Hid (inR c n = false) := by unfold Hid inR; exact decide_eq_false (by omega)
   go_enter Tryz.func77, Tryz.ntmps77
   go_wp2
   go_ret
   exact ⟨by rw [HR.out]; rfl, Below.refl _ _⟩
 ·have HR : Hid (inR c n = false) := by unfold Hid inR; exact decide_eq_false (by omega)
  go_enter Tryz.func77, Tryz.ntmps77
  go_wp2
  go_ret
  exact ⟨by rw [HR.out]; rfl, Below.refl _ _⟩
set_option maxHeartbeats 2000000 in
theorem has16_2 (D k : Nat) (h : Int × Int × Int) (x : Sn16) (c : Int) (w : World) (hS : SN w D h k x) : Calls Tryz.prog 77 #[.pointer (some ⟨D + 3, 0, none⟩), .int .i64 2, .int .i64 c] w fun e w' => e = .returned (.bool (inR c h.2.1)) ∧ Below w.heap.size w w' := by
 have c1 : w.cell? ⟨D + 3, 2, none⟩ = some (.int .i64 h.2.1) := hS.1.cell 2 _ rfl
 clear hS
 generalize h.2.1 = n at *
 by_cases h1 : 0 ≤ c
 ·by_cases h2 : c < n
  ·have HR : Hid (inR c n = true) := by unfold Hid inR; exact decide_eq_true ⟨h1, h2⟩
   go_enter Tryz.func77, Tryz.ntmps77
   go_wp2
   go_ret
   exact ⟨by rw [HR.out]; rfl, Below.refl _ _⟩
  ·have HR : Hid (inR c n = false) := by unfold Hid inR; exact decide_eq_false (by omega)
   go_enter Tryz.func77, Tryz.ntmps77
   go_wp2
   go_ret
   exact ⟨by rw [HR.out]; rfl, Below.refl _ _⟩
 ·have HR : Hid (inR c n = false) := by unfold Hid inR; exact decide_eq_false (by omega)
  go_enter Tryz.func77, Tryz.ntmps77
  go_wp2
  go_ret
  exact ⟨by rw [HR.out]; rfl, Below.refl _ _⟩
set_option maxHeartbeats 2000000 in
theorem has16_3 (D k : Nat) (h : Int × Int × Int) (x : Sn16) (c : Int) (w : World) (hS : SN w D h k x) : Calls Tryz.prog 77 #[.pointer (some ⟨D + 3, 0, none⟩), .int .i64 3, .int .i64 c] w fun e w' => e = .returned (.bool (inR c h.2.2)) ∧ Below w.heap.size w w' := by
 have c1 : w.cell? ⟨D + 3, 3, none⟩ = some (.int .i64 h.2.2) := hS.1.cell 3 _ rfl
 clear hS
 generalize h.2.2 = n at *
 by_cases h1 : 0 ≤ c
 ·by_cases h2 : c < n
  ·have HR : Hid (inR c n = true) := by unfold Hid inR; exact decide_eq_true ⟨h1, h2⟩
   go_enter Tryz.func77, Tryz.ntmps77
   go_wp2
   go_ret
   exact ⟨by rw [HR.out]; rfl, Below.refl _ _⟩
  ·have HR : Hid (inR c n = false) := by unfold Hid inR; exact decide_eq_false (by omega)
   go_enter Tryz.func77, Tryz.ntmps77
   go_wp2
   go_ret
   exact ⟨by rw [HR.out]; rfl, Below.refl _ _⟩
 ·have HR : Hid (inR c n = false) := by unfold Hid inR; exact decide_eq_false (by omega)
  go_enter Tryz.func77, Tryz.ntmps77
  go_wp2
  go_ret
  exact ⟨by rw [HR.out]; rfl, Below.refl _ _⟩
def frmV (k : Int) : Array Value := if k = 4 ∨ k = 5 then #[.int .i64 1, .int .i64 1, .int .i64 0, .int .i64 0, .bool true, .bool true] else if k = 9 then #[.int .i64 2, .int .i64 1, .int .i64 0, .int .i64 0, .bool true, .bool true] else if k = 6 then #[.int .i64 1, .int .i64 0, .int .i64 0, .int .i64 1000, .bool false, .bool true] else if k = 7 then #[.int .i64 2, .int .i64 0, .int .i64 0, .int .i64 1000, .bool false, .bool true] else if k = 8 then #[.int .i64 2, .int .i64 0, .int .i64 (-1000), .int .i64 0, .bool true, .bool false] else #[.int .i64 0, .int .i64 0, .int .i64 0, .int .i64 0, .bool false, .bool false]
set_option maxHeartbeats 2000000 in
theorem form16 (k : Int) (w : World) : Calls Tryz.prog 56 #[.int .i64 k] w fun e w' => e = .returned (.agg (frmV k)) ∧ Below w.heap.size w w' := by
 unfold frmV
 by_cases h4 : k = 4
 ·subst h4
  rw [if_pos (.inl rfl)]
  go_enter Tryz.func56, Tryz.ntmps56
  go_upto_region 1 with fail
  have HG := hide (BX.new w w.heap.size rfl #[.int .i64 0, .int .i64 0, .int .i64 0, .int .i64 0, .bool false, .bool false] 99)
  have HB := hide (bel1 w (.cells #[.int .i64 0, .int .i64 0, .int .i64 0, .int .i64 0, .bool false, .bool false] 99))
  obtain ⟨g, hg⟩ : ∃ g, w.heap.size = g := ⟨_, rfl⟩
  rw [hg] at HG HB ⊢
  have hg2 := Nat.le_refl g
  generalize w.alloc (.cells #[.int .i64 0, .int .i64 0, .int .i64 0, .int .i64 0, .bool false, .bool false] 99) = u at *
  have c0 := HG.out.cell 0 _ rfl
  have y0 := HG.out.free 0
  have c1 := HG.out.cell 1 _ rfl
  have y1 := HG.out.free 1
  have c2 := HG.out.cell 2 _ rfl
  have y2 := HG.out.free 2
  have c3 := HG.out.cell 3 _ rfl
  have y3 := HG.out.free 3
  have c4 := HG.out.cell 4 _ rfl
  have y4 := HG.out.free 4
  have c5 := HG.out.cell 5 _ rfl
  have y5 := HG.out.free 5
  go_wp2
  refine bodyPost_ret (results_cell_row rfl _ _ _ _ _ _ _ rfl (HG.out.put6 _ _ _ _ _ _) Tryz.underlying99 rfl (by kernel_rfl)) rfl ?_
  rw [hg]
  exact ⟨rfl, ((((((HB.out.setCell (p := ⟨g, 0, none⟩) hg2 _).setCell (p := ⟨g, 1, none⟩) hg2 _).setCell (p := ⟨g, 2, none⟩) hg2 _).setCell (p := ⟨g, 3, none⟩) hg2 _).setCell (p := ⟨g, 4, none⟩) hg2 _).setCell (p := ⟨g, 5, none⟩) hg2 _)⟩
 by_cases h5 : k = 5
 ·subst h5
  rw [if_pos (.inr rfl)]
  go_enter Tryz.func56, Tryz.ntmps56
  go_upto_region 1 with fail
  have HG := hide (BX.new w w.heap.size rfl #[.int .i64 0, .int .i64 0, .int .i64 0, .int .i64 0, .bool false, .bool false] 99)
  have HB := hide (bel1 w (.cells #[.int .i64 0, .int .i64 0, .int .i64 0, .int .i64 0, .bool false, .bool false] 99))
  obtain ⟨g, hg⟩ : ∃ g, w.heap.size = g := ⟨_, rfl⟩
  rw [hg] at HG HB ⊢
  have hg2 := Nat.le_refl g
  generalize w.alloc (.cells #[.int .i64 0, .int .i64 0, .int .i64 0, .int .i64 0, .bool false, .bool false] 99) = u at *
  have c0 := HG.out.cell 0 _ rfl
  have y0 := HG.out.free 0
  have c1 := HG.out.cell 1 _ rfl
  have y1 := HG.out.free 1
  have c2 := HG.out.cell 2 _ rfl
  have y2 := HG.out.free 2
  have c3 := HG.out.cell 3 _ rfl
  have y3 := HG.out.free 3
  have c4 := HG.out.cell 4 _ rfl
  have y4 := HG.out.free 4
  have c5 := HG.out.cell 5 _ rfl
  have y5 := HG.out.free 5
  go_wp2
  refine bodyPost_ret (results_cell_row rfl _ _ _ _ _ _ _ rfl (HG.out.put6 _ _ _ _ _ _) Tryz.underlying99 rfl (by kernel_rfl)) rfl ?_
  rw [hg]
  exact ⟨rfl, ((((((HB.out.setCell (p := ⟨g, 0, none⟩) hg2 _).setCell (p := ⟨g, 1, none⟩) hg2 _).setCell (p := ⟨g, 2, none⟩) hg2 _).setCell (p := ⟨g, 3, none⟩) hg2 _).setCell (p := ⟨g, 4, none⟩) hg2 _).setCell (p := ⟨g, 5, none⟩) hg2 _)⟩
 by_cases h9 : k = 9
 ·subst h9
  rw [if_neg (by decide), if_pos rfl]
  go_enter Tryz.func56, Tryz.ntmps56
  go_upto_region 1 with fail
  have HG := hide (BX.new w w.heap.size rfl #[.int .i64 0, .int .i64 0, .int .i64 0, .int .i64 0, .bool false, .bool false] 99)
  have HB := hide (bel1 w (.cells #[.int .i64 0, .int .i64 0, .int .i64 0, .int .i64 0, .bool false, .bool false] 99))
  obtain ⟨g, hg⟩ : ∃ g, w.heap.size = g := ⟨_, rfl⟩
  rw [hg] at HG HB ⊢
  have hg2 := Nat.le_refl g
  generalize w.alloc (.cells #[.int .i64 0, .int .i64 0, .int .i64 0, .int .i64 0, .bool false, .bool false] 99) = u at *
  have c0 := HG.out.cell 0 _ rfl
  have y0 := HG.out.free 0
  have c1 := HG.out.cell 1 _ rfl
  have y1 := HG.out.free 1
  have c2 := HG.out.cell 2 _ rfl
  have y2 := HG.out.free 2
  have c3 := HG.out.cell 3 _ rfl
  have y3 := HG.out.free 3
  have c4 := HG.out.cell 4 _ rfl
  have y4 := HG.out.free 4
  have c5 := HG.out.cell 5 _ rfl
  have y5 := HG.out.free 5
  go_wp2
  refine bodyPost_ret (results_cell_row rfl _ _ _ _ _ _ _ rfl (HG.out.put6 _ _ _ _ _ _) Tryz.underlying99 rfl (by kernel_rfl)) rfl ?_
  rw [hg]
  exact ⟨rfl, ((((((HB.out.setCell (p := ⟨g, 0, none⟩) hg2 _).setCell (p := ⟨g, 1, none⟩) hg2 _).setCell (p := ⟨g, 2, none⟩) hg2 _).setCell (p := ⟨g, 3, none⟩) hg2 _).setCell (p := ⟨g, 4, none⟩) hg2 _).setCell (p := ⟨g, 5, none⟩) hg2 _)⟩
 by_cases h6 : k = 6
 ·subst h6
  rw [if_neg (by decide), if_neg (by decide), if_pos rfl]
  go_enter Tryz.func56, Tryz.ntmps56
  go_upto_region 1 with fail
  have HG := hide (BX.new w w.heap.size rfl #[.int .i64 0, .int .i64 0, .int .i64 0, .int .i64 0, .bool false, .bool false] 99)
  have HB := hide (bel1 w (.cells #[.int .i64 0, .int .i64 0, .int .i64 0, .int .i64 0, .bool false, .bool false] 99))
  obtain ⟨g, hg⟩ : ∃ g, w.heap.size = g := ⟨_, rfl⟩
  rw [hg] at HG HB ⊢
  have hg2 := Nat.le_refl g
  generalize w.alloc (.cells #[.int .i64 0, .int .i64 0, .int .i64 0, .int .i64 0, .bool false, .bool false] 99) = u at *
  have c0 := HG.out.cell 0 _ rfl
  have y0 := HG.out.free 0
  have c1 := HG.out.cell 1 _ rfl
  have y1 := HG.out.free 1
  have c2 := HG.out.cell 2 _ rfl
  have y2 := HG.out.free 2
  have c3 := HG.out.cell 3 _ rfl
  have y3 := HG.out.free 3
  have c4 := HG.out.cell 4 _ rfl
  have y4 := HG.out.free 4
  have c5 := HG.out.cell 5 _ rfl
  have y5 := HG.out.free 5
  go_wp2
  refine bodyPost_ret (results_cell_row rfl _ _ _ _ _ _ _ rfl (HG.out.put6 _ _ _ _ _ _) Tryz.underlying99 rfl (by kernel_rfl)) rfl ?_
  rw [hg]
  exact ⟨rfl, ((((((HB.out.setCell (p := ⟨g, 0, none⟩) hg2 _).setCell (p := ⟨g, 1, none⟩) hg2 _).setCell (p := ⟨g, 2, none⟩) hg2 _).setCell (p := ⟨g, 3, none⟩) hg2 _).setCell (p := ⟨g, 4, none⟩) hg2 _).setCell (p := ⟨g, 5, none⟩) hg2 _)⟩
 by_cases h7 : k = 7
 ·subst h7
  rw [if_neg (by decide), if_neg (by decide), if_neg (by decide), if_pos rfl]
  go_enter Tryz.func56, Tryz.ntmps56
  go_upto_region 1 with fail
  have HG := hide (BX.new w w.heap.size rfl #[.int .i64 0, .int .i64 0, .int .i64 0, .int .i64 0, .bool false, .bool false] 99)
  have HB := hide (bel1 w (.cells #[.int .i64 0, .int .i64 0, .int .i64 0, .int .i64 0, .bool false, .bool false] 99))
  obtain ⟨g, hg⟩ : ∃ g, w.heap.size = g := ⟨_, rfl⟩
  rw [hg] at HG HB ⊢
  have hg2 := Nat.le_refl g
  generalize w.alloc (.cells #[.int .i64 0, .int .i64 0, .int .i64 0, .int .i64 0, .bool false, .bool false] 99) = u at *
  have c0 := HG.out.cell 0 _ rfl
  have y0 := HG.out.free 0
  have c1 := HG.out.cell 1 _ rfl
  have y1 := HG.out.free 1
  have c2 := HG.out.cell 2 _ rfl
  have y2 := HG.out.free 2
  have c3 := HG.out.cell 3 _ rfl
  have y3 := HG.out.free 3
  have c4 := HG.out.cell 4 _ rfl
  have y4 := HG.out.free 4
  have c5 := HG.out.cell 5 _ rfl
  have y5 := HG.out.free 5
  go_wp2
  refine bodyPost_ret (results_cell_row rfl _ _ _ _ _ _ _ rfl (HG.out.put6 _ _ _ _ _ _) Tryz.underlying99 rfl (by kernel_rfl)) rfl ?_
  rw [hg]
  exact ⟨rfl, ((((((HB.out.setCell (p := ⟨g, 0, none⟩) hg2 _).setCell (p := ⟨g, 1, none⟩) hg2 _).setCell (p := ⟨g, 2, none⟩) hg2 _).setCell (p := ⟨g, 3, none⟩) hg2 _).setCell (p := ⟨g, 4, none⟩) hg2 _).setCell (p := ⟨g, 5, none⟩) hg2 _)⟩
 by_cases h8 : k = 8
 ·subst h8
  rw [if_neg (by decide), if_neg (by decide), if_neg (by decide), if_neg (by decide), if_pos rfl]
  go_enter Tryz.func56, Tryz.ntmps56
  go_upto_region 1 with fail
  have HG := hide (BX.new w w.heap.size rfl #[.int .i64 0, .int .i64 0, .int .i64 0, .int .i64 0, .bool false, .bool false] 99)
  have HB := hide (bel1 w (.cells #[.int .i64 0, .int .i64 0, .int .i64 0, .int .i64 0, .bool false, .bool false] 99))
  obtain ⟨g, hg⟩ : ∃ g, w.heap.size = g := ⟨_, rfl⟩
  rw [hg] at HG HB ⊢
  have hg2 := Nat.le_refl g
  generalize w.alloc (.cells #[.int .i64 0, .int .i64 0, .int .i64 0, .int .i64 0, .bool false, .bool false] 99) = u at *
  have c0 := HG.out.cell 0 _ rfl
  have y0 := HG.out.free 0
  have c1 := HG.out.cell 1 _ rfl
  have y1 := HG.out.free 1
  have c2 := HG.out.cell 2 _ rfl
  have y2 := HG.out.free 2
  have c3 := HG.out.cell 3 _ rfl
  have y3 := HG.out.free 3
  have c4 := HG.out.cell 4 _ rfl
  have y4 := HG.out.free 4
  have c5 := HG.out.cell 5 _ rfl
  have y5 := HG.out.free 5
  go_wp2
  refine bodyPost_ret (results_cell_row rfl _ _ _ _ _ _ _ rfl (HG.out.put6 _ _ _ _ _ _) Tryz.underlying99 rfl (by kernel_rfl)) rfl ?_
  rw [hg]
  exact ⟨rfl, ((((((HB.out.setCell (p := ⟨g, 0, none⟩) hg2 _).setCell (p := ⟨g, 1, none⟩) hg2 _).setCell (p := ⟨g, 2, none⟩) hg2 _).setCell (p := ⟨g, 3, none⟩) hg2 _).setCell (p := ⟨g, 4, none⟩) hg2 _).setCell (p := ⟨g, 5, none⟩) hg2 _)⟩
 rw [if_neg (by omega), if_neg h9, if_neg h6, if_neg h7, if_neg h8]
 have b4 : (k == 4) = false := by simpa using h4
 have b5 : (k == 5) = false := by simpa using h5
 have b9 : (k == 9) = false := by simpa using h9
 have b6 : (k == 6) = false := by simpa using h6
 have b7 : (k == 7) = false := by simpa using h7
 have b8 : (k == 8) = false := by simpa using h8
 clear h4 h5 h9 h6 h7 h8
 go_enter Tryz.func56, Tryz.ntmps56
 go_upto_region 1 with fail
 have HG := hide (BX.new w w.heap.size rfl #[.int .i64 0, .int .i64 0, .int .i64 0, .int .i64 0, .bool false, .bool false] 99)
 have HB := hide (bel1 w (.cells #[.int .i64 0, .int .i64 0, .int .i64 0, .int .i64 0, .bool false, .bool false] 99))
 obtain ⟨g, hg⟩ : ∃ g, w.heap.size = g := ⟨_, rfl⟩
 rw [hg] at HG HB ⊢
 have hg2 := Nat.le_refl g
 generalize w.alloc (.cells #[.int .i64 0, .int .i64 0, .int .i64 0, .int .i64 0, .bool false, .bool false] 99) = u at *
 have c0 := HG.out.cell 0 _ rfl
 have y0 := HG.out.free 0
 have c1 := HG.out.cell 1 _ rfl
 have y1 := HG.out.free 1
 have c2 := HG.out.cell 2 _ rfl
 have y2 := HG.out.free 2
 have c3 := HG.out.cell 3 _ rfl
 have y3 := HG.out.free 3
 have c4 := HG.out.cell 4 _ rfl
 have y4 := HG.out.free 4
 have c5 := HG.out.cell 5 _ rfl
 have y5 := HG.out.free 5
 go_wp2
 refine bodyPost_ret (results_cell_row rfl _ _ _ _ _ _ _ rfl (HG.out.put6 _ _ _ _ _ _) Tryz.underlying99 rfl (by kernel_rfl)) rfl ?_
 rw [hg]
 exact ⟨rfl, ((((((HB.out.setCell (p := ⟨g, 0, none⟩) hg2 _).setCell (p := ⟨g, 1, none⟩) hg2 _).setCell (p := ⟨g, 2, none⟩) hg2 _).setCell (p := ⟨g, 3, none⟩) hg2 _).setCell (p := ⟨g, 4, none⟩) hg2 _).setCell (p := ⟨g, 5, none⟩) hg2 _)⟩
end Go.Proofs.YtomppblgalepjaaGreatDoor

