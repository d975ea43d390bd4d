/- What is held through a region that draws its order with calls: a cell, and that nothing that was there is written. -/
import Derived.Test.YtgmimneendnfgaaWLight
namespace Go.Proofs.Ytgmimneendnfgaa
open Go.RowKit

theorem held_next {W0 W w' : World} {p : Addr} {v : Value} (h : W.cell? p = some v ∧ Hid (Below W0.heap.size W0 W)) (hb : Below W.heap.size W w') : w'.cell? p = some v ∧ Hid (Below W0.heap.size W0 w') :=
  ⟨by rw [hb.cell (World.block_lt_of_cell? W _ h.1)]; exact h.1, h.2.out.trans (hb.mono h.2.out.size)⟩
theorem BS.held {W0 W : World} {p : Addr} {v : Value} {a : Option Addr} {n : Nat} {l : List Int} (hB : BS W0 a n l) (h : W.cell? p = some v ∧ Hid (Below W0.heap.size W0 W)) : BS W a n l := hB.below h.2.out
end Go.Proofs.Ytgmimneendnfgaa
