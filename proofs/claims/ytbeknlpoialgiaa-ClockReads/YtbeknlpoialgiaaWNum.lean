/- What 'Bytes', 'noughtAhead', 'value', 'Num' and 'GetNum' do, the program's and the document's. -/
import Derived.Test.YtbeknlpoialgiaaWLen
namespace Go.Proofs.Ytbeknlpoialgiaa
open Go.RowKit
set_option linter.unusedVariables false

theorem ret_bool {a b : Bool} (h : a = b) : Ending.returned (.bool a) = .returned (.bool b) := by rw [h]
theorem drop_ne {l m : List Int} (k : Nat) (hl : k < l.length) (hm : k < m.length) (hne : l.getD k 0 ≠ m.getD k 0) : ¬ l = m := fun h => hne (by rw [h])
theorem take_eq {l m : List Int} (k : Nat) (hl : k < l.length) (hm : k < m.length) (h : l.take k = m.take k) (he : l.getD k 0 = m.getD k 0) : l.take (k + 1) = m.take (k + 1) := by
  rw [List.take_succ_eq_append_getElem hl, List.take_succ_eq_append_getElem hm, h]
  simp [List.getD_eq_getElem?_getD, hl, hm] at he
  rw [he]

set_option maxHeartbeats 400000 in
theorem bytes_any (a b : Option Addr) (n c m d : Nat) (l k : List Int) (w : World) (hA : BS w a n l) (hB : BS w b m k) :
    Calls Try.prog 33 #[.slice a n c, .slice b m d] w fun e w' => e = .returned (.bool (decide (l = k))) ∧ Below w.heap.size w w' := by
  obtain ⟨g1, g2, g3, g4⟩ := hA
  obtain ⟨h1, h2, h3, h4⟩ := hB
  have G1 := hide g1
  have H1 := hide h1
  have G4 := hide g4
  have H4 := hide h4
  unfold maxLen at g2 h2
  clear g1 h1 g3 h3 g4 h4
  by_cases hnm : n = m
  · subst hnm
    go_enter Try.func33, Try.ntmps33
    go_wp2
    go_loopw [5] (fun i wr => ∃ j : Nat, j ≤ n ∧ i = .int .i64 j ∧ Hid (l.take j = k.take j) ∧ Hid (Below w.heap.size w wr)) (fun i _ => n - (intOf i).toNat)
    case atStart => exact ⟨0, by omega, rfl, rfl, Below.refl _ _⟩
    case round =>
      obtain ⟨j, hj, rfl, hE, hW⟩ := hrel
      by_cases hlt : j < n
      · rcases G4.out with h0 | ⟨b1, o1, rfl, hc1⟩
        · omega
        rcases H4.out with h0 | ⟨b2, o2, rfl, hc2⟩
        · omega
        have q1 : wr.cell? ⟨b1, o1 + j, none⟩ = some (.int .u8 (l.getD j 0)) := by rw [hW.out.cell (World.block_lt_of_cell? w _ (hc1 j hlt))]; exact hc1 j hlt
        have q2 : wr.cell? ⟨b2, o2 + j, none⟩ = some (.int .u8 (k.getD j 0)) := by rw [hW.out.cell (World.block_lt_of_cell? w _ (hc2 j hlt))]; exact hc2 j hlt
        clear hc1 hc2 G4 H4
        have hE2 := fun he => hide (take_eq j (by rw [G1.out]; exact hlt) (by rw [H1.out]; exact hlt) hE.out he)
        have hN2 : ∀ he : l.getD j 0 ≠ k.getD j 0, Hid (¬ l = k) := fun he e => he (by rw [e])
        generalize l.getD j 0 = x at q1 hE2 hN2
        generalize k.getD j 0 = y at q2 hE2 hN2
        by_cases he : x = y
        · have hE3 := hE2 he
          subst he
          clear hN2 hE2
          go_wp2
          go_region
          go_wp2
          go_roundw
          case rel => exact ⟨j + 1, by omega, by go_num, hE3, hW.out.drew⟩
          case measure => simp [intOf]; omega
        · have hlk := hN2 he
          have he2 : (x != y) = true := by simpa using he
          clear hE2 hN2 he
          go_wp2
          go_region
          go_wp2
          go_ret
          exact ⟨ret_bool (by simp [hlk.out]), hW.out.drew⟩
      · have : j = n := by omega
        subst this
        have hlk : Hid (l = k) := by
          have := hE.out
          rw [List.take_of_length_le (by rw [G1.out]; exact Nat.le_refl _), List.take_of_length_le (by rw [H1.out]; exact Nat.le_refl _)] at this
          exact this
        go_wp2
        go_ret
        exact ⟨ret_bool (by simp [hlk.out]), hW.out⟩
  · have hne : ((n : Int) != (m : Int)) = true := by simp; omega
    have hlk : Hid (¬ l = k) := fun e => hnm (by rw [← G1.out, ← H1.out, e])
    go_enter Try.func33, Try.ntmps33
    go_wp2
    go_ret
    exact ⟨ret_bool (by simp [hlk.out]), Below.refl _ _⟩
end Go.Proofs.Ytbeknlpoialgiaa
