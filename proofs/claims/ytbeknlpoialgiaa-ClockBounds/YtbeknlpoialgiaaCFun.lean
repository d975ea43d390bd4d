/- What 'Plain', 'Get', 'Set', 'Tick', 'Within' and 'Sum' do. -/
import Derived.Test.YtbeknlpoialgiaaCWithin
namespace Go.Proofs.Ytbeknlpoialgiaa
open Go.RowKit
set_option linter.unusedVariables false

theorem bel_next {w w1 w2 : World} (h1 : Below w.heap.size w w1) (h2 : Below w1.heap.size w1 w2) : Below w.heap.size w w2 := h1.trans (h2.mono h1.size)

theorem Plain_any (a : Option Addr) (n cap : Nat) (c : List Int) (w : World) (hN : NS w a n c) :
    Calls Try.prog 15 #[.slice a n cap] w fun e w' => ∃ v, e = .returned v ∧ OwnN w.heap.size w' v (pln (vec c)) ∧ Below w.heap.size w w' := by
  have HN := hide hN
  clear hN
  go_enter Try.func15, Try.ntmps15
  go_wp2_with (first
    | (go_at_call 37; refine (numbers_any _ _ _ c _ HN.out).mono ?_; rintro e w1 ⟨rfl, hb1⟩; have HB1 := hide hb1; clear hb1)
    | (go_at_call 38; refine (plain_any _ _ _ _ _ _).mono ?_; rintro e w2 ⟨v, rfl, hown, hb2⟩; have HO := hide hown; have HB2 := hide hb2; clear hown hb2))
  go_ret
  exact ⟨_, rfl, HO.out.mono HB1.out.size, bel_next HB1.out HB2.out⟩

theorem Within_any (a b : Option Addr) (n cap m cap' : Nat) (c d : List Int) (w : World) (hN : NS w a n c) (hM : NS w b m d) (r : Bool) (hr : r = decide (wth c d)) :
    Calls Try.prog 26 #[.slice a n cap, .slice b m cap'] w fun e w' => e = .returned (.bool r) ∧ Below w.heap.size w w' := by
  have HN := hide hN
  have HM := hide hM
  clear hN hM
  have HR : Hid (r = decide (wth c d)) := hr
  clear hr
  go_enter Try.func26, Try.ntmps26
  go_wp2_with (first
    | (go_at_call_of 37 a; refine (numbers_any _ _ _ c _ HN.out).mono ?_; rintro e w1 ⟨rfl, hb1⟩; have HB1 := hide hb1; clear hb1)
    | (go_at_call 37; refine (numbers_any _ _ _ d _ (HM.out.below HB1.out)).mono ?_; rintro e w2 ⟨rfl, hb2⟩; have HB2 := hide hb2; clear hb2)
    | (go_at_call 40; refine (within_any _ _ _ _ _ _ _ _ _ _ _ r HR.out).mono ?_; rintro e w3 ⟨rfl, hb3⟩; have HB3 := hide hb3; clear hb3))
  go_ret
  exact ⟨rfl, bel_next (bel_next HB1.out HB2.out) HB3.out⟩

theorem Sum_any (a : Option Addr) (n cap : Nat) (c : List Int) (w : World) (hN : NS w a n c) :
    Calls Try.prog 19 #[.slice a n cap] w fun e w' => e = .returned (.int .i64 (sumL c)) ∧ Below w.heap.size w w' := by
  have HN := hide hN
  clear hN
  have b0 := at5_bd c 0
  have i0 : ∀ w : World, (Instr.index 51 (.agg #[.int .i64 (at5 c 0), .int .i64 (at5 c 1), .int .i64 (at5 c 2), .int .i64 (at5 c 3), .int .i64 (at5 c 4)]) (.int .i64 0)).run Try.prog w = .ok (.int .i64 (at5 c 0)) w := fun _ => by kernel_rfl
  have b1 := at5_bd c 1
  have i1 : ∀ w : World, (Instr.index 51 (.agg #[.int .i64 (at5 c 0), .int .i64 (at5 c 1), .int .i64 (at5 c 2), .int .i64 (at5 c 3), .int .i64 (at5 c 4)]) (.int .i64 1)).run Try.prog w = .ok (.int .i64 (at5 c 1)) w := fun _ => by kernel_rfl
  have b2 := at5_bd c 2
  have i2 : ∀ w : World, (Instr.index 51 (.agg #[.int .i64 (at5 c 0), .int .i64 (at5 c 1), .int .i64 (at5 c 2), .int .i64 (at5 c 3), .int .i64 (at5 c 4)]) (.int .i64 2)).run Try.prog w = .ok (.int .i64 (at5 c 2)) w := fun _ => by kernel_rfl
  have b3 := at5_bd c 3
  have i3 : ∀ w : World, (Instr.index 51 (.agg #[.int .i64 (at5 c 0), .int .i64 (at5 c 1), .int .i64 (at5 c 2), .int .i64 (at5 c 3), .int .i64 (at5 c 4)]) (.int .i64 3)).run Try.prog w = .ok (.int .i64 (at5 c 3)) w := fun _ => by kernel_rfl
  have b4 := at5_bd c 4
  have i4 : ∀ w : World, (Instr.index 51 (.agg #[.int .i64 (at5 c 0), .int .i64 (at5 c 1), .int .i64 (at5 c 2), .int .i64 (at5 c 3), .int .i64 (at5 c 4)]) (.int .i64 4)).run Try.prog w = .ok (.int .i64 (at5 c 4)) w := fun _ => by kernel_rfl
  have HS : Hid (at5 c 0 + at5 c 1 + at5 c 2 + at5 c 3 + at5 c 4 = sumL c) := rfl
  go_enter Try.func19, Try.ntmps19
  go_wp2_with (go_at_call 37; refine (numbers_any _ _ _ c _ HN.out).mono ?_; rintro e w1 ⟨rfl, hb1⟩; have HB1 := hide hb1; clear hb1)
  generalize at5 c 0 = x0 at *
  generalize at5 c 1 = x1 at *
  generalize at5 c 2 = x2 at *
  generalize at5 c 3 = x3 at *
  generalize at5 c 4 = x4 at *
  go_loop [3, 8] (fun s i => (i = .int .i64 0 ∧ s = .int .i64 0) ∨ (i = .int .i64 1 ∧ s = .int .i64 x0) ∨ (i = .int .i64 2 ∧ s = .int .i64 (x0 + x1)) ∨ (i = .int .i64 3 ∧ s = .int .i64 (x0 + x1 + x2)) ∨ (i = .int .i64 4 ∧ s = .int .i64 (x0 + x1 + x2 + x3)) ∨ (i = .int .i64 5 ∧ s = .int .i64 (x0 + x1 + x2 + x3 + x4))) (fun _ i => 5 - (intOf i).toNat)
  case atStart => exact .inl ⟨rfl, rfl⟩
  case round =>
    rcases hrel with ⟨rfl, rfl⟩ | ⟨rfl, rfl⟩ | ⟨rfl, rfl⟩ | ⟨rfl, rfl⟩ | ⟨rfl, rfl⟩ | ⟨rfl, rfl⟩
    · go_wp2
      go_round
      case rel => exact .inr (.inl ⟨rfl, rfl⟩)
      case measure => decide
    · go_wp2
      go_round
      case rel => exact .inr (.inr (.inl ⟨rfl, rfl⟩))
      case measure => decide
    · go_wp2
      go_round
      case rel => exact .inr (.inr (.inr (.inl ⟨rfl, rfl⟩)))
      case measure => decide
    · go_wp2
      go_round
      case rel => exact .inr (.inr (.inr (.inr (.inl ⟨rfl, rfl⟩))))
      case measure => decide
    · go_wp2
      go_round
      case rel => exact .inr (.inr (.inr (.inr (.inr (⟨rfl, rfl⟩)))))
      case measure => decide
    · go_wp2
      go_ret
      exact ⟨ret_int HS.out, HB1.out⟩
end Go.Proofs.Ytbeknlpoialgiaa
