/- slices.Grow and slices.Concat of accounts. -/
import Derived.Test.YtbihgcmnllajpaaGE4
import Derived.Lib.AppendZeros
namespace Go.Proofs.Ytbihgcmnllajpaa
open Go.RowKit Go.Lib Go.Sort
set_option linter.unusedVariables false
set_option maxHeartbeats 1000000 in
theorem growA_any (n : Nat) (w : World) (hn : n ≤ 100000) : Calls Try.prog 39 #[.slice none 0 0, .int .i64 n] w fun e w' => ∃ v, e = .returned v ∧ OwnR encA 6 52 w.heap.size w' v [] ∧ Below w.heap.size w w' := by
  obtain ⟨i0, hi, hz0, hz1, hz2⟩ := info_parts Try.infoAcc
  rcases Nat.eq_zero_or_pos n with h0 | hp
  · subst h0
    clear hi hz0 hz1 hz2 hn
    go_enter Try.func39, Try.ntmps39
    go_wp2
    go_ret
    exact ⟨_, rfl, OwnR.nil _ _, Below.refl _ _⟩
  · obtain ⟨G, hG⟩ : ∃ G, G = grownCap w n 0 52 := ⟨_, rfl⟩
    obtain ⟨R, hR⟩ : ∃ R : Array Value, R = Builtin.zeroCells (Value.agg #[.string ⟨#[]⟩, .int .i64 0, .int .i64 0, .int .i64 0, .int .i64 0, .int .i64 0]).cells n ++ Builtin.zeroCells (Value.agg #[.string ⟨#[]⟩, .int .i64 0, .int .i64 0, .int .i64 0, .int .i64 0, .int .i64 0]).cells (G - n) := ⟨_, rfl⟩
    have hg1 : n ≤ G := by rw [hG]; exact grownCap_ge w n 0 52
    have hg2 : G ≤ maxLen := by rw [hG]; exact grownCap_le_maxLen w n 0 52 (by unfold maxLen; omega)
    have hRs : R.size = G * 6 := by rw [hR]; simp [Builtin.zeroCells, Value.cells]; omega
    have hr : ∀ ty, (Builtin.append_ #[22, 3] ty #[.slice none 0 0, .int .i64 (n : Int)]).run Try.prog w = .ok (.slice (some ⟨w.heap.size, 0, none⟩) n G) (w.drew.alloc (.cells R 52)) := fun ty => by
      rw [hR, hG]
      exact Lib.run_append_nil_zeros w _ _ ty _ i0 _ .i64 .i64 Try.underlying22 Try.underlying3 hi hz0 n hp (by rw [hz1]; decide) (by omega) (by rw [hz2]; omega)
    have HR := hide hr
    have h1 : ¬ ((n : Int) < 0) := by omega
    have h2 : (0 : Int) < (n : Int) := by omega
    have hwn := wrapT (show n ≤ 9223372036854775807 by omega)
    have HO : Hid (OwnR encA 6 52 w.heap.size (w.drew.alloc (.cells R 52)) (.slice (some ⟨w.heap.size, 0, none⟩) 0 G) []) := World.ownsRow_made w.drew R G (Nat.le_refl _) hg2 hRs
    have HB : Hid (Below w.heap.size w (w.drew.alloc (.cells R 52))) := ((Below.refl _ w).drew).alloc (Nat.le_refl _) _
    have hg0 : (0 : Int) ≤ (G : Int) := by omega
    clear hr hi hz0 hz1 hz2 hn hR hRs hg2 hG
    go_enter Try.func39, Try.ntmps39
    go_wp2_with (at_builtin; refine Lib.wpList_append_run _ rfl _ _ _ _ rfl _ _ rfl rfl _ _ (HR.out _) ?_; refine Stop.at ?_)
    unfold Stop
    go_wp2
    go_ret
    exact ⟨_, rfl, HO.out, HB.out⟩
set_option maxHeartbeats 2000000 in
theorem concatA_any (G : Nat) (p1 p2 p3 : Option Addr) (n1 c1 n2 c2 n3 c3 : Nat) (l1 l2 l3 : List Ac) (w : World) (e0 : w.cell? ⟨G, 0, none⟩ = some (.slice p1 n1 c1)) (e1 : w.cell? ⟨G, 1, none⟩ = some (.slice p2 n2 c2)) (e2 : w.cell? ⟨G, 2, none⟩ = some (.slice p3 n3 c3))
    (h1 : RS encA 6 w p1 n1 l1) (h2 : RS encA 6 w p2 n2 l2) (h3 : RS encA 6 w p3 n3 l3) (k1 : p1 = none → c1 = 0) (k2 : p2 = none → c2 = 0) (k3 : p3 = none → c3 = 0) (hn : n1 + n2 + n3 ≤ 100000) :
    Calls Try.prog 35 #[.slice (some ⟨G, 0, none⟩) 3 3] w fun e w' => ∃ v, e = .returned v ∧ OwnR encA 6 52 w.heap.size w' v (l1 ++ l2 ++ l3) ∧ Below w.heap.size w w' := by
  have HG := hide (growA_any (n1 + n2 + n3) w hn)
  have H1 := hide h1
  have H2 := hide h2
  have H3 := hide h3
  have K1 := hide k1
  have K2 := hide k2
  have K3 := hide k3
  have HL : Hid (l1.length = n1 ∧ l2.length = n2 ∧ l3.length = n3) := ⟨h1.1, h2.1, h3.1⟩
  have hw0 := wrapT (show n1 ≤ 9223372036854775807 by omega)
  have hw1 := wrapT (show n1 + n2 ≤ 9223372036854775807 by omega)
  have hw2 := wrapT (show n1 + n2 + n3 ≤ 9223372036854775807 by omega)
  have hp1 : ((n1 : Int) + (n2 : Int)) = ((n1 + n2 : Nat) : Int) := by omega
  have hp2 : (((n1 + n2 : Nat) : Int) + (n3 : Int)) = ((n1 + n2 + n3 : Nat) : Int) := by omega
  have hq1 : ¬ (((n1 + n2 : Nat) : Int) < 0) := by omega
  have hq2 : ¬ (((n1 + n2 + n3 : Nat) : Int) < 0) := by omega
  clear h1 h2 h3 k1 k2 k3
  generalize n1 + n2 + n3 = n123 at *
  generalize n1 + n2 = n12 at *
  go_enter Try.func35, Try.ntmps35
  go_wp2
  refine wp_loop_rounds 4 ?_
  rw [rounds_succ]
  go_wp2
  rw [rounds_succ]
  go_wp2
  rw [rounds_succ]
  go_wp2
  rw [rounds_succ]
  go_wp2_with (go_at_call 39; refine Stop.at ?_)
  unfold Stop
  refine HG.out.mono ?_
  rintro e u ⟨v, rfl, hO, hB⟩
  have HO := hide hO
  have HB := hide hB
  have d0 := bcell hB e0
  have HE1 := hide e1
  have HE2 := hide e2
  clear hO hB HG e0 e1 e2
  go_wp2
  refine wp_loop_rounds 4 ?_
  rw [rounds_succ]
  go_wp2_with (at_builtin; refine Stop.at ?_)
  unfold Stop
  refine append_rows rfl _ _ 22 rfl Try.underlying22 Try.infoAcc rfl (by decide) (by decide) encA_len encA_one w.heap.size _ [] l1 rfl HO.out p1 n1 c1 rfl K1.out (H1.out.below HB.out) (by have := HL.out; rw [List.length_nil]; omega) HB.out.size ?_
  intro v2 u2 hO2 hg2 hB2
  have HO2 := hide hO2
  have HB2 := hide (hB2 _ HB.out)
  have d1 := bcell HB2.out HE1.out
  clear hO2 hB2 hg2 HO d0
  rw [List.nil_append] at HO2
  go_wp2
  rw [rounds_succ]
  go_wp2_with (at_builtin; refine Stop.at ?_)
  unfold Stop
  refine append_rows rfl _ _ 22 rfl Try.underlying22 Try.infoAcc rfl (by decide) (by decide) encA_len encA_one w.heap.size _ l1 l2 rfl HO2.out p2 n2 c2 rfl K2.out (H2.out.below HB2.out) (by have := HL.out; omega) HB2.out.size ?_
  intro v3 u3 hO3 hg3 hB3
  have HO3 := hide hO3
  have HB3 := hide (hB3 _ HB2.out)
  have d2 := bcell HB3.out HE2.out
  clear hO3 hB3 hg3 HO2 d1
  go_wp2
  rw [rounds_succ]
  go_wp2_with (at_builtin; refine Stop.at ?_)
  unfold Stop
  refine append_rows rfl _ _ 22 rfl Try.underlying22 Try.infoAcc rfl (by decide) (by decide) encA_len encA_one w.heap.size _ (l1 ++ l2) l3 rfl HO3.out p3 n3 c3 rfl K3.out (H3.out.below HB3.out) (by have := HL.out; rw [List.length_append]; omega) HB3.out.size ?_
  intro v4 u4 hO4 hg4 hB4
  have HO4 := hide hO4
  have HB4 := hide (hB4 _ HB3.out)
  clear hO4 hB4 hg4 HO3 d2
  go_wp2
  rw [rounds_succ]
  go_wp2
  go_ret
  exact ⟨_, rfl, HO4.out, HB4.out⟩
end Go.Proofs.Ytbihgcmnllajpaa
