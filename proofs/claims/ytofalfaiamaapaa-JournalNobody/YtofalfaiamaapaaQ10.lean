/- Nobody's journal (layer 7). -/
import Derived.Test.YtofalfaiamaapaaQ9
namespace Go.Proofs.Ytofalfaiamaapaa
open Go.RowKit
set_option linter.unusedVariables false
/-- A journal that Open did not give. -/
def Nob (w : World) (v : Value) : Prop := v = .pointer none ∨ ∃ jb, v = .pointer (some ⟨jb, 0, none⟩) ∧ BX w jb #[.pointer none, .int .i64 0, .int .i64 0, .bool false] 62
theorem Broken_nob (v : Value) (w : World) (h : Nob w v) : Calls Try.prog 23 #[v] w fun e w' => e = .returned (.bool true) ∧ w' = w := by
  rcases h with rfl | ⟨jb, rfl, h⟩
  · go_enter Try.func23, Try.ntmps23
    go_wp2
    go_ret
    exact ⟨rfl, rfl⟩
  · have c0 := h.cell 0 _ rfl
    clear h
    go_enter Try.func23, Try.ntmps23
    go_wp2
    go_ret
    exact ⟨rfl, rfl⟩
theorem Put_nob (v u : Value) (w : World) (h : Nob w v) : Calls Try.prog 26 #[v, u] w fun e w' => e = .returned (.int .i64 8) ∧ w' = w := by
  have H := hide (Broken_nob v w h)
  clear h
  go_enter Try.func26, Try.ntmps26
  go_wp2_with fail
  refine H.out.mono ?_
  rintro e w' ⟨rfl, rfl⟩
  go_wp2
  go_ret
  exact ⟨rfl, rfl⟩
theorem Renew_nob (v u : Value) (w : World) (h : Nob w v) : Calls Try.prog 28 #[v, u] w fun e w' => e = .returned (.int .i64 8) ∧ w' = w := by
  have H := hide (Broken_nob v w h)
  clear h
  go_enter Try.func28, Try.ntmps28
  go_wp2_with fail
  refine H.out.mono ?_
  rintro e w' ⟨rfl, rfl⟩
  go_wp2
  go_ret
  exact ⟨rfl, rfl⟩
theorem Sync_nob (v : Value) (w : World) (h : Nob w v) : Calls Try.prog 27 #[v] w fun e w' => e = .returned (.int .i64 8) ∧ w' = w := by
  have H := hide (Broken_nob v w h)
  clear h
  go_enter Try.func27, Try.ntmps27
  go_wp2_with fail
  refine H.out.mono ?_
  rintro e w' ⟨rfl, rfl⟩
  go_wp2
  go_ret
  exact ⟨rfl, rfl⟩
theorem Turn_nob (v : Value) (w : World) (h : Nob w v) : Calls Try.prog 13 #[v] w fun e w' => e = .returned (.int .i64 0) ∧ w' = w := by
  rcases h with rfl | ⟨jb, rfl, h⟩
  · go_enter Try.func13, Try.ntmps13
    go_wp2
    go_ret
    exact ⟨rfl, rfl⟩
  · have c2 := h.cell 2 _ rfl
    clear h
    go_enter Try.func13, Try.ntmps13
    go_wp2
    go_ret
    exact ⟨rfl, rfl⟩
theorem Size_nob (v : Value) (w : World) (h : Nob w v) : Calls Try.prog 29 #[v] w fun e w' => e = .returned (.int .i64 0) ∧ w' = w := by
  have H := hide (Turn_nob v w h)
  clear h
  go_enter Try.func29, Try.ntmps29
  go_wp2_with fail
  refine H.out.mono ?_
  rintro e w' ⟨rfl, rfl⟩
  go_wp2
  go_ret
  exact ⟨rfl, rfl⟩
theorem Open_nil (w : World) : Calls Try.prog 11 #[.pointer none] w fun e w' => e = .returned (.tuple #[.pointer none, .slice none 0 0, .int .i64 1]) ∧ w' = w := by
  go_enter Try.func11, Try.ntmps11
  go_wp2
  refine bodyPost_ret (results_tmp3 rfl _ _ _) rfl ?_
  exact ⟨rfl, rfl⟩
abbrev ZD : Array Value := #[.bool false, .int .i64 0, .slice none 0 0, .int .i64 0, .slice none 0 0, .int .i64 0, .int .i64 0]
theorem Dead_zero (g : Nat) (w : World) (h : BX w g ZD 69) : Calls Try.prog 19 #[.pointer (some ⟨g, 0, none⟩)] w fun e w' => e = .returned (.bool true) ∧ w' = w := by
  have c0 := h.cell 0 _ rfl
  have H : Hid (Calls Try.prog 38 #[.pointer (some ⟨g, 0, none⟩)] w fun e w' => e = .returned (.bool false) ∧ w' = w) := by
    unfold Hid
    clear h
    go_enter Try.func38, Try.ntmps38
    go_wp2
    go_ret
    exact ⟨rfl, rfl⟩
  clear h
  go_enter Try.func19, Try.ntmps19
  go_wp2_with fail
  refine H.out.mono ?_
  rintro e w' ⟨rfl, rfl⟩
  go_wp2
  go_ret
  exact ⟨rfl, rfl⟩
theorem Read_zero (g : Nat) (w : World) (h : BX w g ZD 69) : Calls Try.prog 34 #[.pointer (some ⟨g, 0, none⟩), .int .i64 0] w fun e w' => e = .returned (.tuple #[.slice none 0 0, .int .i64 9]) ∧ w' = w := by
  have D := hide (Dead_zero g w h)
  have H : Hid (Calls Try.prog 30 #[.pointer (some ⟨g, 0, none⟩), .int .i64 0] w fun e w' => e = .returned (.int .i64 9) ∧ w' = w) := by
    unfold Hid
    clear h
    go_enter Try.func30, Try.ntmps30
    go_wp2_with fail
    refine D.out.mono ?_
    rintro e w' ⟨rfl, rfl⟩
    go_wp2
    go_ret
    exact ⟨rfl, rfl⟩
  clear h
  go_enter Try.func34, Try.ntmps34
  go_wp2_with fail
  refine H.out.mono ?_
  rintro e w' ⟨rfl, rfl⟩
  go_wp2
  refine bodyPost_ret (results_tmp2 rfl _ _ _) rfl ?_
  exact ⟨rfl, rfl⟩
theorem Open_zero (g : Nat) (w : World) (h : BX w g ZD 69) : Calls Try.prog 11 #[.pointer (some ⟨g, 0, none⟩)] w fun e w' => e = .returned (.tuple #[.pointer none, .slice none 0 0, .int .i64 9]) ∧ Below w.heap.size w w' := by
  have HB := hide (bel1 w (.cells #[.pointer (some ⟨g, 0, none⟩), .int .i64 1, .int .i64 0, .bool false] 62))
  have H := hide (Read_zero g _ (h.below HB.out))
  clear h
  go_enter Try.func11, Try.ntmps11
  go_wp2
  generalize w.alloc (.cells #[.pointer (some ⟨g, 0, none⟩), .int .i64 1, .int .i64 0, .bool false] 62) = w0 at *
  go_loopw [6, 7, 20] (fun V tn i wr => V = .slice none 0 0 ∧ tn = .bool false ∧ i = .int .i64 0 ∧ wr = w0) (fun _ _ i _ => 2 - (intOf i).toNat)
  case atStart => exact ⟨rfl, rfl, rfl, rfl⟩
  case round =>
    obtain ⟨rfl, rfl, rfl, rfl⟩ := hrel
    go_wp2_with fail
    refine H.out.mono ?_
    rintro e w' ⟨rfl, rfl⟩
    go_wp2
    refine bodyPost_ret (results_tmp3 rfl _ _ _) rfl ?_
    exact ⟨rfl, HB.out⟩
end Go.Proofs.Ytofalfaiamaapaa
