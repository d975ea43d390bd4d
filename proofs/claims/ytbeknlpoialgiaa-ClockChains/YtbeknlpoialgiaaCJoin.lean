/- What 'join' and 'within' do, over arrays of five numbers. -/
import Derived.Test.YtbeknlpoialgiaaCPlain
namespace Go.Proofs.Ytbeknlpoialgiaa
open Go.RowKit
set_option linter.unusedVariables false

theorem mx_eq (x y : Int) : (if x < y then y else x) = max x y := by
  by_cases h : x < y
  · rw [if_pos h]; omega
  · rw [if_neg h]; omega
theorem mn_eq (x y : Int) : (if x < y then x else y) = min x y := by
  by_cases h : x < y
  · rw [if_pos h]; omega
  · rw [if_neg h]; omega
theorem heap3_new (w : World) (n : Nat) (hn : w.heap.size = n) (A B C : Obj) : (((w.alloc A).alloc B).alloc C).heap[n + 1 + 1]? = some C := by
  subst hn
  have := heap_alloc_new ((w.alloc A).alloc B) C
  simpa using this

/-- What is joined behind 'k' rounds. -/
def jw (k : Nat) (x0 x1 x2 x3 x4 y0 y1 y2 y3 y4 : Int) : Array Value :=
  match k with
  | 0 => #[.int .i64 x0, .int .i64 x1, .int .i64 x2, .int .i64 x3, .int .i64 x4]
  | 1 => #[.int .i64 (max x0 y0), .int .i64 x1, .int .i64 x2, .int .i64 x3, .int .i64 x4]
  | 2 => #[.int .i64 (max x0 y0), .int .i64 (max x1 y1), .int .i64 x2, .int .i64 x3, .int .i64 x4]
  | 3 => #[.int .i64 (max x0 y0), .int .i64 (max x1 y1), .int .i64 (max x2 y2), .int .i64 x3, .int .i64 x4]
  | 4 => #[.int .i64 (max x0 y0), .int .i64 (max x1 y1), .int .i64 (max x2 y2), .int .i64 (max x3 y3), .int .i64 x4]
  | _ => #[.int .i64 (max x0 y0), .int .i64 (max x1 y1), .int .i64 (max x2 y2), .int .i64 (max x3 y3), .int .i64 (max x4 y4)]

set_option maxHeartbeats 2000000 in
theorem join_any (x0 x1 x2 x3 x4 y0 y1 y2 y3 y4 : Int) (w : World) :
    Calls Try.prog 39 #[.agg #[.int .i64 x0, .int .i64 x1, .int .i64 x2, .int .i64 x3, .int .i64 x4], .agg #[.int .i64 y0, .int .i64 y1, .int .i64 y2, .int .i64 y3, .int .i64 y4]] w fun e w' => e = .returned (.agg #[.int .i64 (max x0 y0), .int .i64 (max x1 y1), .int .i64 (max x2 y2), .int .i64 (max x3 y3), .int .i64 (max x4 y4)]) ∧ Below w.heap.size w w' := by
  go_enter Try.func39, Try.ntmps39
  go_wp2
  go_loopw [6] (fun i wr => ∃ (k : Nat) (w0 : World), k ≤ 5 ∧ i = .int .i64 k ∧ w0.heap.size = w.heap.size ∧ Hid (Below w.heap.size w w0) ∧
    wr = ((w0.alloc (.cells (jw k x0 x1 x2 x3 x4 y0 y1 y2 y3 y4) 51)).alloc (.cells #[.int .i64 y0, .int .i64 y1, .int .i64 y2, .int .i64 y3, .int .i64 y4] 51)).alloc (.cells #[.int .i64 0, .int .i64 0, .int .i64 0, .int .i64 0, .int .i64 0] 51)) (fun i _ => 5 - (intOf i).toNat)
  case atStart => exact ⟨0, w, by omega, rfl, rfl, Below.refl _ _, rfl⟩
  case round =>
    obtain ⟨k, w0, hk, rfl, hsz, hB, rfl⟩ := hrel
    have hk5 : k = 0 ∨ k = 1 ∨ k = 2 ∨ k = 3 ∨ k = 4 ∨ k = 5 := by omega
    rcases hk5 with rfl | rfl | rfl | rfl | rfl | rfl
    · simp only [jw]
      go_wp2
      go_region
      go_wp2
      refine ⟨⟨1, w0.drew, by omega, rfl, hsz, hB.out.drew, ?_⟩, by decide⟩
      rw [mx_eq]
      rfl
    · simp only [jw]
      go_wp2
      go_region
      go_wp2
      refine ⟨⟨2, w0.drew, by omega, rfl, hsz, hB.out.drew, ?_⟩, by decide⟩
      rw [mx_eq]
      rfl
    · simp only [jw]
      go_wp2
      go_region
      go_wp2
      refine ⟨⟨3, w0.drew, by omega, rfl, hsz, hB.out.drew, ?_⟩, by decide⟩
      rw [mx_eq]
      rfl
    · simp only [jw]
      go_wp2
      go_region
      go_wp2
      refine ⟨⟨4, w0.drew, by omega, rfl, hsz, hB.out.drew, ?_⟩, by decide⟩
      rw [mx_eq]
      rfl
    · simp only [jw]
      go_wp2
      go_region
      go_wp2
      refine ⟨⟨5, w0.drew, by omega, rfl, hsz, hB.out.drew, ?_⟩, by decide⟩
      rw [mx_eq]
      rfl
    · simp only [jw]
      go_wp2
      refine bodyPost_ret (results_cell_row rfl _ _ _ _ _ _ _ rfl (heap3_new w0 _ hsz _ _ _) Try.underlying51 rfl Try.info5) rfl ⟨rfl, ?_⟩
      exact ((hB.out.alloc (by omega) _).alloc (by simp; omega) _).alloc (by simp; omega) _
end Go.Proofs.Ytbeknlpoialgiaa
