/- What 'slices.Concat' of two lists and 'Add' do. -/
import Derived.Test.YtccpbkemiilgcaaDFun8
namespace Go.Proofs.Ytccpbkemiilgcaa
open Go.RowKit Go.Lib Go.Sort
set_option linter.unusedVariables false

theorem grow_any (n : Nat) (w : World) (hn : n ≤ 100000) : Calls Try.prog 52 #[.slice none 0 0, .int .i64 n] w fun e w' => ∃ v, e = .returned v ∧ OwnD w.heap.size w' v [] ∧ Below w.heap.size w w' := by
  obtain ⟨i0, hi, hz0, hz1, hz2⟩ := info_parts Try.infoDot
  rcases Nat.eq_zero_or_pos n with h0 | hp
  · subst h0
    have h := Any8.slices_Grow_room growD none 0 0 0 w (Nat.le_refl _) (by omega) (by omega) (by omega)
    change Calls Try.prog 52 _ _ _ at h
    refine Calls.mono h ?_
    rintro e w' ⟨rfl, rfl⟩
    exact ⟨_, rfl, OwnD.nil _ _, Below.refl _ _⟩
  · have h := Any8.slices_Grow_grow growD i0 (.agg #[.int .i64 0, .int .i64 0]) hi hz0 (by rw [hz1]; decide) none 0 0 n [] w (Nat.le_refl _) (by omega) (by rw [hz2]; omega) (by omega) (by simp) (fun _ => rfl) (fun a h => by cases h)
    change Calls Try.prog 52 _ _ _ at h
    refine Calls.mono h ?_
    rintro e w' ⟨rfl, rfl⟩
    refine ⟨_, rfl, ?_, ((Below.refl _ w).drew).alloc (Nat.le_refl _) _⟩
    have hg1 := grownCap_ge w (0 + n) 0 28
    have hg2 := grownCap_le_maxLen w (0 + n) 0 28 (by unfold maxLen; omega)
    refine World.ownsRow_made w.drew _ _ (Nat.le_refl _) hg2 ?_
    show (_ : Array Value).size = grownCap w (0 + n) 0 28 * 2
    have et : growD_ren.t 25 = 28 := rfl
    simp only [Nat.zero_add, et] at hg1 hg2 ⊢
    simp [Builtin.zeroCells, Value.cells]
    omega

set_option maxHeartbeats 1000000 in
set_option maxRecDepth 100000 in
theorem concat_any (G : Nat) (p1 p2 : Option Addr) (n1 c1 n2 c2 : Nat) (l m : List Dot) (w : World) (e0 : w.cell? ⟨G, 0, none⟩ = some (.slice p1 n1 c1)) (e1 : w.cell? ⟨G, 1, none⟩ = some (.slice p2 n2 c2))
    (h1 : DS w p1 n1 l) (h2 : DS w p2 n2 m) (k1 : p1 = none → c1 = 0) (k2 : p2 = none → c2 = 0) (hn : n1 + n2 ≤ 100000) :
    Calls Try.prog 31 #[.slice (some ⟨G, 0, none⟩) 2 2] w fun e w' => ∃ v, e = .returned v ∧ OwnD w.heap.size w' v (l ++ m) ∧ Below w.heap.size w w' := by
  have HG := hide (grow_any (n1 + n2) w hn)
  have H1 := hide h1
  have H2 := hide h2
  have hl1 := h1.1
  have hl2 := h2.1
  have K1 := hide k1
  have K2 := hide k2
  have HL : Hid (l.length = n1 ∧ m.length = n2) := ⟨hl1, hl2⟩
  have hw1 := wrapJ (show n1 + n2 ≤ 1000000000 by omega)
  have hp : ((n1 : Int) + (n2 : Int)) = ((n1 + n2 : Nat) : Int) := by omega
  have hq : ¬ (((n1 + n2 : Nat) : Int) < 0) := by omega
  clear h1 h2 hl1 hl2 k1 k2
  generalize n1 + n2 = nn at *
  go_enter Try.func31, Try.ntmps31
  go_wp2
  refine wp_loop_rounds 3 ?_
  rw [rounds_succ]
  go_wp2
  rw [rounds_succ]
  go_wp2
  rw [rounds_succ]
  go_wp2_with (go_at_call 52; refine Stop.at ?_)
  unfold Stop
  refine HG.out.mono ?_
  rintro e u ⟨v, rfl, hO, hB⟩
  have HO := hide hO
  have HB := hide hB
  have d0 := bcell hB e0
  have d1 := bcell hB e1
  have HE1 := hide e1
  clear hO hB HG e0 e1 d1
  go_wp2
  refine wp_loop_rounds 3 ?_
  rw [rounds_succ]
  go_wp2_with (at_builtin; refine Stop.at ?_)
  unfold Stop
  refine append_dots rfl _ _ rfl w.heap.size _ [] l rfl HO.out p1 n1 c1 rfl K1.out (H1.out.below HB.out) (by have := HL.out; simp; omega) HB.out.size ?_
  intro v2 u2 hO2 hB2
  have HO2 := hide hO2
  have HB2 := hide (hB2 _ HB.out)
  have d1 := bcell HB2.out HE1.out
  clear hO2 hB2 HO d0
  rw [List.nil_append] at HO2
  go_wp2
  rw [rounds_succ]
  go_wp2_with (at_builtin; refine Stop.at ?_)
  unfold Stop
  refine append_dots rfl _ _ rfl w.heap.size _ l m rfl HO2.out p2 n2 c2 rfl K2.out (H2.out.below HB2.out) (by have := HL.out; omega) HB2.out.size ?_
  intro v3 u3 hO3 hB3
  have HO3 := hide hO3
  have HB3 := hide (hB3 _ HB2.out)
  clear hO3 hB3 HO2 d1
  go_wp2
  rw [rounds_succ]
  go_wp2
  go_ret
  exact ⟨_, rfl, HO3.out, HB3.out⟩
end Go.Proofs.Ytccpbkemiilgcaa
