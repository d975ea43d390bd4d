/- What 'within' does, over arrays of five numbers. -/
import Derived.Test.YtbeknlpoialgiaaCJoin
import Derived.Deep.RegionHeld3
import Derived.ChangeKeysEq
import Derived.Laws.StructEq
namespace Go.Proofs.Ytbeknlpoialgiaa
open Go.RowKit
set_option linter.unusedVariables false

theorem eqItems_step {P : Program} (w : World) (d : Nat) (e : TypeId) (c i : Nat) (is : List Nat) (xs ys : Array Value) (k : IntKind) (a b : Int) (hu : P.underlying e = some (.int k)) (h1 : ∀ w, (part e xs (i * c)).run P w = .ok (.int k a) w) (h2 : ∀ w, (part e ys (i * c)).run P w = .ok (.int k b) w) :
    (Op.eqItems (d + 1) e c xs ys (i :: is)).run P w = if a = b then (Op.eqItems (d + 1) e c xs ys is).run P w else .ok false w := by
  simp only [Op.eqItems, Sem.run_bind, h1, h2, Result.andThen_ok, run_equalIn_int w d e k k a b hu]
  by_cases h : a = b
  · simp [h]
  · simp [h]
/-- '==' of two arrays of five numbers. -/
theorem eq5 (x0 x1 x2 x3 x4 y0 y1 y2 y3 y4 : Int) (b : Bool) (hb : b = decide (x0 = y0 ∧ x1 = y1 ∧ x2 = y2 ∧ x3 = y3 ∧ x4 = y4)) (w : World) : (Op.equalIn 10000 51 (.agg #[.int .i64 x0, .int .i64 x1, .int .i64 x2, .int .i64 x3, .int .i64 x4]) (.agg #[.int .i64 y0, .int .i64 y1, .int .i64 y2, .int .i64 y3, .int .i64 y4])).run Try.prog w = .ok b w := by
  subst hb
  obtain ⟨i0, hi, hz0, hz1, hz2⟩ := info_parts Try.infoI64
  rw [run_equalIn_array (P := Try.prog) w 9999 _ _ Try.underlying51 hi]
  show (Op.eqItems 9999 3 _ _ _ [0, 1, 2, 3, 4]).run Try.prog w = _
  rw [eqItems_step w 9998 3 _ 0 _ _ _ .i64 x0 y0 Try.underlying3 (fun _ => by kernel_rfl) (fun _ => by kernel_rfl)]
  rw [eqItems_step w 9998 3 _ 1 _ _ _ .i64 x1 y1 Try.underlying3 (fun _ => by kernel_rfl) (fun _ => by kernel_rfl)]
  rw [eqItems_step w 9998 3 _ 2 _ _ _ .i64 x2 y2 Try.underlying3 (fun _ => by kernel_rfl) (fun _ => by kernel_rfl)]
  rw [eqItems_step w 9998 3 _ 3 _ _ _ .i64 x3 y3 Try.underlying3 (fun _ => by kernel_rfl) (fun _ => by kernel_rfl)]
  rw [eqItems_step w 9998 3 _ 4 _ _ _ .i64 x4 y4 Try.underlying3 (fun _ => by kernel_rfl) (fun _ => by kernel_rfl)]
  simp only [Op.eqItems, Sem.run_pure]
  by_cases h0 : x0 = y0
  · by_cases h1 : x1 = y1
    · by_cases h2 : x2 = y2
      · by_cases h3 : x3 = y3
        · by_cases h4 : x4 = y4
          · simp [h0, h1, h2, h3, h4]
          · simp [h0, h1, h2, h3, h4]
        · simp [h0, h1, h2, h3]
      · simp [h0, h1, h2]
    · simp [h0, h1]
  · simp [h0]

/-- Two arrays lie in memory, and what was there at the beginning lies there still. -/
def Two (g : Nat) (x0 x1 x2 x3 x4 y0 y1 y2 y3 y4 : Int) (W0 W : World) : Prop := W.cell? ⟨g, 0, none⟩ = some (.int .i64 x0) ∧ W.cell? ⟨g, 1, none⟩ = some (.int .i64 x1) ∧ W.cell? ⟨g, 2, none⟩ = some (.int .i64 x2) ∧ W.cell? ⟨g, 3, none⟩ = some (.int .i64 x3) ∧ W.cell? ⟨g, 4, none⟩ = some (.int .i64 x4) ∧ W.cell? ⟨g + 1, 0, none⟩ = some (.int .i64 y0) ∧ W.cell? ⟨g + 1, 1, none⟩ = some (.int .i64 y1) ∧ W.cell? ⟨g + 1, 2, none⟩ = some (.int .i64 y2) ∧ W.cell? ⟨g + 1, 3, none⟩ = some (.int .i64 y3) ∧ W.cell? ⟨g + 1, 4, none⟩ = some (.int .i64 y4) ∧ Hid (Below W0.heap.size W0 W)
theorem Two.next {g : Nat} {x0 x1 x2 x3 x4 y0 y1 y2 y3 y4 : Int} {W0 W w' : World} (h : Two g x0 x1 x2 x3 x4 y0 y1 y2 y3 y4 W0 W) (hb : Below W.heap.size W w') : Two g x0 x1 x2 x3 x4 y0 y1 y2 y3 y4 W0 w' := by
  obtain ⟨a0, a1, a2, a3, a4, b0, b1, b2, b3, b4, hB⟩ := h
  refine ⟨?_, ?_, ?_, ?_, ?_, ?_, ?_, ?_, ?_, ?_, hB.out.trans (hb.mono hB.out.size)⟩ <;> (rw [hb.cell (World.block_lt_of_cell? W _ (by assumption))]; assumption)
theorem Two.drew {g : Nat} {x0 x1 x2 x3 x4 y0 y1 y2 y3 y4 : Int} {W0 W : World} (h : Two g x0 x1 x2 x3 x4 y0 y1 y2 y3 y4 W0 W) : Two g x0 x1 x2 x3 x4 y0 y1 y2 y3 y4 W0 W.drew := by
  obtain ⟨a0, a1, a2, a3, a4, b0, b1, b2, b3, b4, hB⟩ := h
  exact ⟨a0, a1, a2, a3, a4, b0, b1, b2, b3, b4, hB.out.drew⟩

set_option maxHeartbeats 2000000 in
theorem within_any (x0 x1 x2 x3 x4 y0 y1 y2 y3 y4 : Int) (w : World) (b : Bool) (hb : b = decide (x0 ≤ y0 ∧ x1 ≤ y1 ∧ x2 ≤ y2 ∧ x3 ≤ y3 ∧ x4 ≤ y4)) :
    Calls Try.prog 40 #[.agg #[.int .i64 x0, .int .i64 x1, .int .i64 x2, .int .i64 x3, .int .i64 x4], .agg #[.int .i64 y0, .int .i64 y1, .int .i64 y2, .int .i64 y3, .int .i64 y4]] w fun e w' => e = .returned (.bool b) ∧ Below w.heap.size w w' := by
  have hk0 : Two w.heap.size x0 x1 x2 x3 x4 y0 y1 y2 y3 y4 w ((w.alloc (.cells #[.int .i64 x0, .int .i64 x1, .int .i64 x2, .int .i64 x3, .int .i64 x4] 51)).alloc (.cells #[.int .i64 y0, .int .i64 y1, .int .i64 y2, .int .i64 y3, .int .i64 y4] 51)) := by
    refine ⟨?_, ?_, ?_, ?_, ?_, ?_, ?_, ?_, ?_, ?_, bel2 _ _ _⟩
    all_goals first | (rw [World.cell?_alloc_mark]; rfl) | (simp; done)
  have heq := eq5 (max x0 y0) (max x1 y1) (max x2 y2) (max x3 y3) (max x4 y4) y0 y1 y2 y3 y4 b (by rw [hb]; congr 1; simp only [eq_iff_iff]; omega)
  clear hb
  go_enter Try.func40, Try.ntmps40
  go_wp2
  have hk1 := hk0.drew
  unfold Two at hk0 hk1
  go_region_held3 (fun W => W.cell? ⟨w.heap.size, 0, none⟩ = some (.int .i64 x0) ∧ W.cell? ⟨w.heap.size, 1, none⟩ = some (.int .i64 x1) ∧ W.cell? ⟨w.heap.size, 2, none⟩ = some (.int .i64 x2) ∧ W.cell? ⟨w.heap.size, 3, none⟩ = some (.int .i64 x3) ∧ W.cell? ⟨w.heap.size, 4, none⟩ = some (.int .i64 x4) ∧ W.cell? ⟨w.heap.size + 1, 0, none⟩ = some (.int .i64 y0) ∧ W.cell? ⟨w.heap.size + 1, 1, none⟩ = some (.int .i64 y1) ∧ W.cell? ⟨w.heap.size + 1, 2, none⟩ = some (.int .i64 y2) ∧ W.cell? ⟨w.heap.size + 1, 3, none⟩ = some (.int .i64 y3) ∧ W.cell? ⟨w.heap.size + 1, 4, none⟩ = some (.int .i64 y4) ∧ Hid (Below w.heap.size w W)) (first | exact hk1 | exact hk0) (first
    | (go_at_call 39; refine (join_any _ _ _ _ _ _ _ _ _ _ _).mono ?_; rintro e w4 ⟨rfl, hb5⟩; have hk1 := Two.next (by assumption) hb5; unfold Two at hk1; clear hb5))
  clear hk0
  have hB := hide hk1.2.2.2.2.2.2.2.2.2.2.out
  clear hk1 heq
  go_wp2
  go_ret
  exact ⟨rfl, hB.out⟩
end Go.Proofs.Ytbeknlpoialgiaa
