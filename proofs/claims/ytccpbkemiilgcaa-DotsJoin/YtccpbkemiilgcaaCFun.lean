/- What 'Plain', 'Get', 'Set', 'Tick', 'Within' and 'Sum' do. -/
import Derived.Test.YtccpbkemiilgcaaCWithin
namespace Go.Proofs.Ytccpbkemiilgcaa
open Go.RowKit
set_option linter.unusedVariables false

theorem bel_next {w w1 w2 : World} (h1 : Below w.heap.size w w1) (h2 : Below w1.heap.size w1 w2) : Below w.heap.size w w2 := h1.trans (h2.mono h1.size)

theorem Plain_any (a : Option Addr) (n cap : Nat) (c : List Int) (w : World) (hN : NS w a n c) :
    Calls Try.prog 51 #[.slice a n cap] w fun e w' => ∃ v, e = .returned v ∧ OwnN w.heap.size w' v (pln (vec c)) ∧ Below w.heap.size w w' := by
  have HN := hide hN
  clear hN
  go_enter Try.func51, Try.ntmps51
  go_wp2_with (first
    | (go_at_call 61; refine (numbers_any _ _ _ c _ HN.out).mono ?_; rintro e w1 ⟨rfl, hb1⟩; have HB1 := hide hb1; clear hb1)
    | (go_at_call 62; refine (plain_any _ _ _ _ _ _).mono ?_; rintro e w2 ⟨v, rfl, hown, hb2⟩; have HO := hide hown; have HB2 := hide hb2; clear hown hb2))
  go_ret
  exact ⟨_, rfl, HO.out.mono HB1.out.size, bel_next HB1.out HB2.out⟩

theorem Within_any (a b : Option Addr) (n cap m cap' : Nat) (c d : List Int) (w : World) (hN : NS w a n c) (hM : NS w b m d) (r : Bool) (hr : r = decide (wth c d)) :
    Calls Try.prog 48 #[.slice a n cap, .slice b m cap'] w fun e w' => e = .returned (.bool r) ∧ Below w.heap.size w w' := by
  have HN := hide hN
  have HM := hide hM
  clear hN hM
  have HR : Hid (r = decide (wth c d)) := hr
  clear hr
  go_enter Try.func48, Try.ntmps48
  go_wp2_with (first
    | (go_at_call_of 61 a; refine (numbers_any _ _ _ c _ HN.out).mono ?_; rintro e w1 ⟨rfl, hb1⟩; have HB1 := hide hb1; clear hb1)
    | (go_at_call 61; refine (numbers_any _ _ _ d _ (HM.out.below HB1.out)).mono ?_; rintro e w2 ⟨rfl, hb2⟩; have HB2 := hide hb2; clear hb2)
    | (go_at_call 63; refine (within_any _ _ _ _ _ _ _ _ _ _ _ r HR.out).mono ?_; rintro e w3 ⟨rfl, hb3⟩; have HB3 := hide hb3; clear hb3))
  go_ret
  exact ⟨rfl, bel_next (bel_next HB1.out HB2.out) HB3.out⟩

end Go.Proofs.Ytccpbkemiilgcaa
