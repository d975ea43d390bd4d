/- What 'Join' does, of any clocks. -/
import Derived.Test.YtbeknlpoialgiaaCOrd
namespace Go.Proofs.Ytbeknlpoialgiaa
open Go.RowKit
set_option linter.unusedVariables false

/-- Of one replica the greatest number. -/
def jAt (cs : List (List Int)) (i : Nat) : Int := cs.foldl (fun m c => max m (at5 c i)) 0
theorem jAt_step (cs : List (List Int)) (k i : Nat) (hk : k < cs.length) : jAt (cs.take (k + 1)) i = max (jAt (cs.take k) i) (at5 (cs.getD k []) i) := by
  unfold jAt
  rw [List.take_add_one, List.foldl_append]
  simp [List.getD_eq_getElem?_getD, List.getElem?_eq_getElem hk]

/-- A slice of clocks. -/
def CS (w : World) (a : Option Addr) (n : Nat) (cs : List (List Int)) : Prop :=
  cs.length = n ∧ n ≤ maxLen ∧ (n = 0 ∨ ∃ b off, a = some ⟨b, off, none⟩ ∧ ∀ i, i < n → ∃ x len cap, w.cell? ⟨b, off + i, none⟩ = some (.slice x len cap) ∧ NS w x len (cs.getD i []))

/-- An array lies in a block of its own, and what was there at the beginning lies there still. -/
def Row5 (g : Nat) (x0 x1 x2 x3 x4 : Int) (W0 W : World) : Prop := W.heap[g]? = some (.cells #[.int .i64 x0, .int .i64 x1, .int .i64 x2, .int .i64 x3, .int .i64 x4] 51 (0, 0)) ∧ W.cell? ⟨g, 0, none⟩ = some (.int .i64 x0) ∧ W.cell? ⟨g, 1, none⟩ = some (.int .i64 x1) ∧ W.cell? ⟨g, 2, none⟩ = some (.int .i64 x2) ∧ W.cell? ⟨g, 3, none⟩ = some (.int .i64 x3) ∧ W.cell? ⟨g, 4, none⟩ = some (.int .i64 x4) ∧ W.frozen? ⟨g, 0, none⟩ = false ∧ W.frozen? ⟨g, 1, none⟩ = false ∧ W.frozen? ⟨g, 2, none⟩ = false ∧ W.frozen? ⟨g, 3, none⟩ = false ∧ W.frozen? ⟨g, 4, none⟩ = false ∧ Hid (Below W0.heap.size W0 W)
theorem Row5.of {g : Nat} {x0 x1 x2 x3 x4 : Int} {W0 W : World} (h : W.heap[g]? = some (.cells #[.int .i64 x0, .int .i64 x1, .int .i64 x2, .int .i64 x3, .int .i64 x4] 51 (0, 0))) (hb : Below W0.heap.size W0 W) : Row5 g x0 x1 x2 x3 x4 W0 W := by
  refine ⟨h, ?_, ?_, ?_, ?_, ?_, ?_, ?_, ?_, ?_, ?_, hb⟩ <;> first | (rw [cell_of_row W _ _ _ _ _ h]; rfl) | (simp [World.frozen?, h]; done)
theorem Row5.bel {g : Nat} {x0 x1 x2 x3 x4 : Int} {W0 W : World} (h : Row5 g x0 x1 x2 x3 x4 W0 W) : Below W0.heap.size W0 W := h.2.2.2.2.2.2.2.2.2.2.2.out
theorem Row5.next {g : Nat} {x0 x1 x2 x3 x4 : Int} {W0 W w' : World} (h : Row5 g x0 x1 x2 x3 x4 W0 W) (hb : Below W.heap.size W w') : Row5 g x0 x1 x2 x3 x4 W0 w' :=
  Row5.of (by rw [hb.block g (Array.getElem?_eq_some_iff.1 h.1).1]; exact h.1) (bel_next h.bel hb)
theorem Row5.drew {g : Nat} {x0 x1 x2 x3 x4 : Int} {W0 W : World} (h : Row5 g x0 x1 x2 x3 x4 W0 W) : Row5 g x0 x1 x2 x3 x4 W0 W.drew := Row5.of h.1 h.bel.drew

theorem set1 {W0 W : World} {B g : Nat} {cur : Array Value} {t : TypeId} (hg : W.heap[g]? = some (.cells cur t (0, 0))) (hb : Below B W0 W) (hB : B ≤ g) (i : Nat) (v : Value) :
    (W.setCell ⟨g, i, none⟩ v).heap[g]? = some (.cells (cur.setIfInBounds i v) t (0, 0)) ∧ Below B W0 (W.setCell ⟨g, i, none⟩ v) := by
  refine ⟨?_, hb.setCell hB _⟩
  simp [World.setCell, Array.getElem?_modify, hg]
theorem set5 {W0 W : World} {g : Nat} {x0 x1 x2 x3 x4 : Int} (h : Row5 g x0 x1 x2 x3 x4 W0 W) (hB : W0.heap.size ≤ g) (z0 z1 z2 z3 z4 : Int) :
    ((World.setCell (World.setCell (World.setCell (World.setCell (World.setCell W ⟨g, 0, none⟩ (.int .i64 z0)) ⟨g, 1, none⟩ (.int .i64 z1)) ⟨g, 2, none⟩ (.int .i64 z2)) ⟨g, 3, none⟩ (.int .i64 z3)) ⟨g, 4, none⟩ (.int .i64 z4))).heap[g]? = some (.cells #[.int .i64 z0, .int .i64 z1, .int .i64 z2, .int .i64 z3, .int .i64 z4] 51 (0, 0)) ∧ Below W0.heap.size W0 (World.setCell (World.setCell (World.setCell (World.setCell (World.setCell W ⟨g, 0, none⟩ (.int .i64 z0)) ⟨g, 1, none⟩ (.int .i64 z1)) ⟨g, 2, none⟩ (.int .i64 z2)) ⟨g, 3, none⟩ (.int .i64 z3)) ⟨g, 4, none⟩ (.int .i64 z4)) := by
  have a0 := set1 h.1 h.bel hB 0 (.int .i64 z0)
  have a1 := set1 a0.1 a0.2 hB 1 (.int .i64 z1)
  have a2 := set1 a1.1 a1.2 hB 2 (.int .i64 z2)
  have a3 := set1 a2.1 a2.2 hB 3 (.int .i64 z3)
  have a4 := set1 a3.1 a3.2 hB 4 (.int .i64 z4)
  exact ⟨by rw [a4.1]; simp, a4.2⟩

set_option maxHeartbeats 2000000 in
theorem Join_any (a : Option Addr) (n cap : Nat) (cs : List (List Int)) (w : World) (hC : CS w a n cs) :
    Calls Try.prog 22 #[.slice a n cap] w fun e w' => ∃ v, e = .returned v ∧ OwnN w.heap.size w' v (pln [jAt cs 0, jAt cs 1, jAt cs 2, jAt cs 3, jAt cs 4]) ∧ Below w.heap.size w w' := by
  obtain ⟨hlen, hmax, hcells⟩ := hC
  unfold maxLen at hmax
  have HL := hide hlen
  have HC := hide hcells
  clear hlen hcells
  go_enter Try.func22, Try.ntmps22
  go_wp2
  go_loopw [8] (fun i wr => ∃ k : Nat, k ≤ n ∧ i = .int .i64 k ∧ Hid (wr.heap[w.heap.size]? = some (.cells #[.int .i64 (jAt (cs.take k) 0), .int .i64 (jAt (cs.take k) 1), .int .i64 (jAt (cs.take k) 2), .int .i64 (jAt (cs.take k) 3), .int .i64 (jAt (cs.take k) 4)] 51 (0, 0))) ∧ Hid (Below w.heap.size w wr)) (fun i _ => n - (intOf i).toNat)
  case atStart => exact ⟨0, by omega, rfl, heap_alloc_new w _, bel1 _ _⟩
  case round =>
    obtain ⟨k, hk, rfl, hG, hB⟩ := hrel
    by_cases hlt : k < n
    · rcases HC.out with h0 | ⟨b, off, rfl, hc⟩
      · omega
      · obtain ⟨p, len, cap', hck, hns⟩ := hc k hlt
        have hck' := ((Ext.refl w).below hB.out) _ _ hck
        have HNS := hide hns
        have hj : ∀ i, jAt (cs.take (k + 1)) i = max (jAt (cs.take k) i) (at5 (cs.getD k []) i) := fun i => jAt_step cs k i (by rw [HL.out]; exact hlt)
        have HJ := hide hj
        clear hc hck hns hj
        obtain ⟨y0, hy0⟩ : ∃ y0, y0 = at5 (cs.getD k []) 0 := ⟨_, rfl⟩
        obtain ⟨y1, hy1⟩ : ∃ y1, y1 = at5 (cs.getD k []) 1 := ⟨_, rfl⟩
        obtain ⟨y2, hy2⟩ : ∃ y2, y2 = at5 (cs.getD k []) 2 := ⟨_, rfl⟩
        obtain ⟨y3, hy3⟩ : ∃ y3, y3 = at5 (cs.getD k []) 3 := ⟨_, rfl⟩
        obtain ⟨y4, hy4⟩ : ∃ y4, y4 = at5 (cs.getD k []) 4 := ⟨_, rfl⟩
        have hnum := fun W h => numbers_any p len cap' (cs.getD k []) W h
        rw [← hy0, ← hy1, ← hy2, ← hy3, ← hy4] at hnum
        have j0 := hide (HJ.out 0)
        have j1 := hide (HJ.out 1)
        have j2 := hide (HJ.out 2)
        have j3 := hide (HJ.out 3)
        have j4 := hide (HJ.out 4)
        rw [← hy0] at j0
        rw [← hy1] at j1
        rw [← hy2] at j2
        rw [← hy3] at j3
        rw [← hy4] at j4
        clear HJ hy0 hy1 hy2 hy3 hy4
        generalize jAt (cs.take k) 0 = x0 at *
        generalize jAt (cs.take k) 1 = x1 at *
        generalize jAt (cs.take k) 2 = x2 at *
        generalize jAt (cs.take k) 3 = x3 at *
        generalize jAt (cs.take k) 4 = x4 at *
        have HNUM := hide hnum
        clear hnum
        go_wp2
        have hk0 : Row5 w.heap.size x0 x1 x2 x3 x4 w wr.drew := Row5.of hG.out hB.out.drew
        have HK0 := hide hk0
        unfold Row5 at hk0
        clear hG hB
        go_region_with (first
          | (go_at_call 37; refine (HNUM.out _ (HNS.out.below HK0.out.bel)).mono ?_; rintro e w4 ⟨rfl, hb5⟩; have hk1 := HK0.out.next hb5; have HK1 := hide hk1; unfold Row5 at hk1; clear hb5)
          | (go_at_call 39; refine (join_any _ _ _ _ _ _ _ _ _ _ _).mono ?_; rintro e w5 ⟨rfl, hb6⟩; have hk2 := HK1.out.next hb6; have HK2 := hide hk2; unfold Row5 at hk2; clear hb6))
        all_goals
          have h5 := set5 HK2.out (Nat.le_refl _) (max x0 y0) (max x1 y1) (max x2 y2) (max x3 y3) (max x4 y4)
          clear hk0 hk1 hk2 HK0 HK1 HK2
          generalize (World.setCell (World.setCell (World.setCell (World.setCell (World.setCell w5 ⟨w.heap.size, 0, none⟩ (.int .i64 (max x0 y0))) ⟨w.heap.size, 1, none⟩ (.int .i64 (max x1 y1))) ⟨w.heap.size, 2, none⟩ (.int .i64 (max x2 y2))) ⟨w.heap.size, 3, none⟩ (.int .i64 (max x3 y3))) ⟨w.heap.size, 4, none⟩ (.int .i64 (max x4 y4))) = W' at h5 ⊢
          have hG' := hide h5.1
          have hB' := hide h5.2
          clear h5
          rw [← j0.out, ← j1.out, ← j2.out, ← j3.out, ← j4.out] at hG'
          go_wp2
          go_roundw
          case rel => exact ⟨k + 1, by omega, by go_num, hG', hB'⟩
          case measure => simp [intOf]; omega
    · have hkl : k = n := by omega
      subst hkl
      have HT : Hid (cs.take k = cs) := List.take_of_length_le (by rw [HL.out]; exact Nat.le_refl _)
      have hG' := hG.out
      rw [HT.out] at hG'
      have hk0 : Row5 w.heap.size (jAt cs 0) (jAt cs 1) (jAt cs 2) (jAt cs 3) (jAt cs 4) w wr := Row5.of hG' hB.out
      unfold Row5 at hk0
      clear hG hG' HT
      go_wp2_with (go_at_call 38; refine (plain_any _ _ _ _ _ _).mono ?_; rintro e w3 ⟨v, rfl, hown, hb3⟩; have HO := hide hown; have HB3 := hide hb3; clear hown hb3)
      go_ret
      exact ⟨_, rfl, HO.out.mono hB.out.size, bel_next hB.out HB3.out⟩
end Go.Proofs.Ytbeknlpoialgiaa
