/- What 'Order' and 'Meet' do. -/
import Derived.Test.YtccpbkemiilgcaaCSet
namespace Go.Proofs.Ytccpbkemiilgcaa
open Go.RowKit
set_option linter.unusedVariables false

theorem Two.made (x0 x1 x2 x3 x4 y0 y1 y2 y3 y4 : Int) (w0 w : World) (hb : Below w0.heap.size w0 w) : Two w.heap.size x0 x1 x2 x3 x4 y0 y1 y2 y3 y4 w0 ((w.alloc (.cells #[.int .i64 x0, .int .i64 x1, .int .i64 x2, .int .i64 x3, .int .i64 x4] 75)).alloc (.cells #[.int .i64 y0, .int .i64 y1, .int .i64 y2, .int .i64 y3, .int .i64 y4] 75)) := by
  refine ⟨?_, ?_, ?_, ?_, ?_, ?_, ?_, ?_, ?_, ?_, (hb.alloc hb.size _).alloc (by simp; have := hb.size; omega) _⟩
  all_goals first | (rw [World.cell?_alloc_mark]; rfl) | (simp; done)

theorem mn_eq2 (x y : Int) : (if y < x then y else x) = min x y := by rw [mn_eq]; omega
theorem eq_of_wth {c d : List Int} (h1 : wth c d) (h2 : wth d c) : at5 c 0 = at5 d 0 ∧ at5 c 1 = at5 d 1 ∧ at5 c 2 = at5 d 2 ∧ at5 c 3 = at5 d 3 ∧ at5 c 4 = at5 d 4 := by
  unfold wth at h1 h2; omega
theorem wth_of_eq {c d : List Int} (h : at5 c 0 = at5 d 0 ∧ at5 c 1 = at5 d 1 ∧ at5 c 2 = at5 d 2 ∧ at5 c 3 = at5 d 3 ∧ at5 c 4 = at5 d 4) : wth c d ∧ wth d c := by
  unfold wth; omega

/-- What is met behind 'k' rounds. -/
def mw (k : Nat) (x0 x1 x2 x3 x4 y0 y1 y2 y3 y4 : Int) : Array Value :=
  match k with
  | 0 => #[.int .i64 x0, .int .i64 x1, .int .i64 x2, .int .i64 x3, .int .i64 x4]
  | 1 => #[.int .i64 (min x0 y0), .int .i64 x1, .int .i64 x2, .int .i64 x3, .int .i64 x4]
  | 2 => #[.int .i64 (min x0 y0), .int .i64 (min x1 y1), .int .i64 x2, .int .i64 x3, .int .i64 x4]
  | 3 => #[.int .i64 (min x0 y0), .int .i64 (min x1 y1), .int .i64 (min x2 y2), .int .i64 x3, .int .i64 x4]
  | 4 => #[.int .i64 (min x0 y0), .int .i64 (min x1 y1), .int .i64 (min x2 y2), .int .i64 (min x3 y3), .int .i64 x4]
  | _ => #[.int .i64 (min x0 y0), .int .i64 (min x1 y1), .int .i64 (min x2 y2), .int .i64 (min x3 y3), .int .i64 (min x4 y4)]

end Go.Proofs.Ytccpbkemiilgcaa
