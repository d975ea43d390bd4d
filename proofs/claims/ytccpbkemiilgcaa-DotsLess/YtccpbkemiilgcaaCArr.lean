/- What 'numbersOf', 'plain', 'join' and 'within' do: arrays of five numbers. -/
import Derived.Test.YtccpbkemiilgcaaCCheck
import Derived.Laws.CopyOwn
import Derived.Laws.Rows
import Derived.Deep.WholeRow
namespace Go.Proofs.Ytccpbkemiilgcaa
open Go.RowKit
set_option linter.unusedVariables false

theorem at5_may {c : List Int} (hm : mayC c = true) (k : Nat) : at5 c k = c.getD k 0 := if_pos hm
theorem five_row {c : List Int} (hm : mayC c = true) (z : Value) (hz : z = .int .i64 0) : (c.map (Value.int .i64) ++ List.drop c.length [z, z, z, z, z]) = [.int .i64 (at5 c 0), .int .i64 (at5 c 1), .int .i64 (at5 c 2), .int .i64 (at5 c 3), .int .i64 (at5 c 4)] := by
  subst hz
  simp only [at5_may hm]
  have h5 := (mayC_iff.1 hm).1
  match c, h5 with
  | [], _ => rfl
  | [_], _ => rfl
  | [_, _], _ => rfl
  | [_, _, _], _ => rfl
  | [_, _, _, _], _ => rfl
  | [_, _, _, _, _], _ => rfl
theorem Try.infoI1 : (Try.prog.info? 3).map (·.size) = some 1 := by kernel_rfl
theorem Try.info5 : (Try.prog.info? 75).map (·.size) = some 5 := by kernel_rfl

theorem bel1 (w : World) (A : Obj) : Below w.heap.size w (w.alloc A) := (Below.refl _ _).alloc (Nat.le_refl _) _
theorem bel2 (w : World) (A B : Obj) : Below w.heap.size w ((w.alloc A).alloc B) := (bel1 w A).alloc (by simp) _
theorem bel3 (w : World) (A B C : Obj) : Below w.heap.size w (((w.alloc A).alloc B).alloc C) := (bel2 w A B).alloc (by simp; omega) _

/-- 'copy(x[:], c)', 'x' five noughts. -/
theorem run_copy_five (w : World) (g : Nat) (hg : g = w.heap.size) (p : Option Addr) (n cap : Nat) (c : List Int) (hN : NS w p n c) (hm : mayC c = true) :
    (Builtin.copy_ #[22, 23] 3 #[.slice (some ⟨g, 0, none⟩) 5 5, .slice p n cap]).run Try.prog (w.alloc (.cells #[.int .i64 0, .int .i64 0, .int .i64 0, .int .i64 0, .int .i64 0] 75)) =
      .ok (goInt n) (w.alloc (.cells #[.int .i64 (at5 c 0), .int .i64 (at5 c 1), .int .i64 (at5 c 2), .int .i64 (at5 c 3), .int .i64 (at5 c 4)] 75)) := by
  subst hg
  have hN' := hN.alloc (.cells #[.int .i64 0, .int .i64 0, .int .i64 0, .int .i64 0, .int .i64 0] 75)
  obtain ⟨hl, _, hc⟩ := hN'
  have h5 : c.length ≤ 5 := (mayC_iff.1 hm).1
  rcases hc with h0 | ⟨b, off, rfl, hc⟩
  · subst h0
    obtain rfl : c = [] := List.eq_nil_of_length_eq_zero hl
    exact run_copy_none _ _ _ _ _ _ _ _ _ _ _ Try.underlying22 Try.infoI1 (by rfl)
  · rw [run_copy_row (P := Try.prog) _ _ _ _ 3 w.heap.size 0 5 5 ⟨b, off, none⟩ n cap _ _ (c.map (Value.int .i64)) Try.underlying22 Try.infoI1 (heap_alloc_new w _) (by rw [List.length_map, hl]; exact (Nat.min_eq_left (by omega)).symm) ?_ (by simp; omega) ?_]
    · rw [World.setRow_alloc_new]
      have e := five_row hm (.int .i64 0) rfl
      simp only [List.length_map, List.take_zero, List.nil_append, Nat.zero_add, hl]
      rw [hl] at e
      rw [e]
    · intro j v hj
      rw [List.getElem?_map, Option.map_eq_some_iff] at hj
      obtain ⟨y, hy, rfl⟩ := hj
      obtain ⟨hj1, hx2⟩ := List.getElem?_eq_some_iff.1 hy
      have h1 := hc j (by omega)
      have h2 : c.getD j 0 = y := by simp [List.getD_eq_getElem?_getD, hy]
      rw [h2] at h1
      have h3 : (⟨b, off, none⟩ : Addr).add j = ⟨b, off + j, none⟩ := by
        by_cases hj0 : j = 0
        · subst hj0; simp [Addr.add]
        · simp [Addr.add, hj0]
      rw [h3]
      exact h1
    · intro v hv
      rw [List.mem_map] at hv
      obtain ⟨y, _, rfl⟩ := hv
      rfl

set_option maxHeartbeats 400000 in
theorem numbers_any (a : Option Addr) (n cap : Nat) (c : List Int) (w : World) (hN : NS w a n c) :
    Calls Try.prog 61 #[.slice a n cap] w fun e w' => e = .returned (.agg #[.int .i64 (at5 c 0), .int .i64 (at5 c 1), .int .i64 (at5 c 2), .int .i64 (at5 c 3), .int .i64 (at5 c 4)]) ∧ Below w.heap.size w w' := by
  have HN := hide hN
  obtain ⟨hlen, hmax, hcells⟩ := hN
  unfold maxLen at hmax
  by_cases hm : mayC c = true
  · have HM := hide hm
    have hk : chk c = 0 := by unfold chk; rw [if_pos hm]
    clear hlen hcells hm
    go_enter Try.func61, Try.ntmps61
    have hcp := run_copy_five (w.alloc (.cells #[.int .i64 0, .int .i64 0, .int .i64 0, .int .i64 0, .int .i64 0] 75)) (w.heap.size + 1) (by simp) a n cap c (HN.out.alloc _) HM.out
    go_wp2_with (go_at_call 53; refine (check_any _ _ _ c _ ((HN.out.alloc _).alloc _)).mono ?_; rintro e w' ⟨rfl, rfl⟩; rw [hk])
    exact bodyPost_ret (results_cell_row rfl _ _ _ _ _ _ _ rfl (heap_alloc2_old _ _ _) Try.underlying75 rfl Try.info5) rfl ⟨rfl, bel2 _ _ _⟩
  · have hc0 : ∀ k, at5 c k = 0 := fun k => by unfold at5; rw [if_neg hm]
    have HC : Hid (∀ k, at5 c k = 0) := hc0
    have hk : chk c = 1 := by unfold chk; rw [if_neg hm]
    clear hlen hcells hm hc0
    go_enter Try.func61, Try.ntmps61
    go_wp2_with (go_at_call 53; refine (check_any _ _ _ c _ ((HN.out.alloc _).alloc _)).mono ?_; rintro e w' ⟨rfl, rfl⟩; rw [hk])
    refine bodyPost_ret (results_cell_row rfl _ _ _ _ _ _ _ rfl (heap_alloc2_old _ _ _) Try.underlying75 rfl Try.info5) rfl ⟨?_, bel2 _ _ _⟩
    rw [HC.out, HC.out, HC.out, HC.out, HC.out]
end Go.Proofs.Ytccpbkemiilgcaa
