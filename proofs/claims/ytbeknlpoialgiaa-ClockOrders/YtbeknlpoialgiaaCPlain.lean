/- What 'plain' does: the clock of five numbers, without noughts at its end, in new memory. -/
import Derived.Test.YtbeknlpoialgiaaCArr
namespace Go.Proofs.Ytbeknlpoialgiaa
open Go.RowKit
set_option linter.unusedVariables false

theorem plen_take_zero {X : List Int} {k : Nat} (hk : k < X.length) (h : X.getD k 0 = 0) (hp : plen X = plen (X.take (k + 1))) : plen X = plen (X.take k) := by
  rw [hp, List.take_add_one]
  have e : X[k]? = some 0 := by
    have h1 : X.getD k 0 = X[k] := by simp [List.getD_eq_getElem?_getD, hk]
    rw [List.getElem?_eq_getElem hk, ← h1, h]
  rw [e]; exact plen_zero _
theorem pln_take {X : List Int} {k : Nat} (hk : k < X.length) (h : X.getD k 0 ≠ 0) (hp : plen X = plen (X.take (k + 1))) : pln X = X.take (k + 1) := by
  unfold pln
  rw [hp]
  congr 1
  rw [List.take_add_one]
  have e : X[k]? = some (X.getD k 0) := by simp [List.getD_eq_getElem?_getD, hk]
  rw [e]
  have := plen_snoc h (X.take k)
  rw [show (some (X.getD k 0)).toList = [X.getD k 0] from rfl, this, List.length_take]
  omega
theorem five_ns (w : World) (x0 x1 x2 x3 x4 : Int) (k : Nat) (hk : k ≤ 5) : NS (w.alloc (.cells #[.int .i64 x0, .int .i64 x1, .int .i64 x2, .int .i64 x3, .int .i64 x4] 51)) (some ⟨w.heap.size, 0, none⟩) k ([x0, x1, x2, x3, x4].take k) :=
  (NS.new w _ rfl [x0, x1, x2, x3, x4] _ rfl _ _ 5 rfl (by decide)).head k hk

set_option maxHeartbeats 1000000 in
theorem plain_any (x0 x1 x2 x3 x4 : Int) (w : World) :
    Calls Try.prog 38 #[.agg #[.int .i64 x0, .int .i64 x1, .int .i64 x2, .int .i64 x3, .int .i64 x4]] w fun e w' => ∃ v, e = .returned v ∧ OwnN w.heap.size w' v (pln [x0, x1, x2, x3, x4]) ∧ Below w.heap.size w w' := by
  have HP : Hid (plen [x0, x1, x2, x3, x4] = plen ([x0, x1, x2, x3, x4].take 5)) := rfl
  go_enter Try.func38, Try.ntmps38
  go_wp2
  go_loop [3] (fun i => ∃ k : Nat, k ≤ 5 ∧ i = .int .i64 k ∧ Hid (plen [x0, x1, x2, x3, x4] = plen ([x0, x1, x2, x3, x4].take k))) (fun i => (intOf i).toNat)
  case atStart => exact ⟨5, by omega, rfl, HP⟩
  case round =>
    clear HP
    obtain ⟨k, hk, rfl, hH⟩ := hrel
    have hk5 : k = 0 ∨ k = 1 ∨ k = 2 ∨ k = 3 ∨ k = 4 ∨ k = 5 := by omega
    rcases hk5 with rfl | rfl | rfl | rfl | rfl | rfl
    · have HE : Hid ([x0, x1, x2, x3, x4].take 0 = pln [x0, x1, x2, x3, x4]) := by have h2 := hH.out; unfold Hid pln; rw [h2]; rfl
      clear hH
      have hns := hide (five_ns w x0 x1 x2 x3 x4 0 (by omega))
      go_wp2_with (at_builtin; refine Stop.at ?_)
      unfold Stop
      refine append_nums rfl _ _ 22 Try.underlying22 rfl w.heap.size _ [] ([x0, x1, x2, x3, x4].take 0) rfl (OwnN.nil _ _) ⟨w.heap.size, 0, none⟩ 0 5 rfl hns.out (by simp) (by simp) ?_
      intro v' w' hown hgr hbel
      have hB := hide (hbel _ (bel1 w _))
      have hO := hide hown
      clear hown hgr hbel
      go_wp2
      go_ret
      refine ⟨_, rfl, ?_, hB.out⟩
      rw [← HE.out]
      exact hO.out
    · by_cases hz : x0 = 0
      · have hH2 : Hid (plen [x0, x1, x2, x3, x4] = plen ([x0, x1, x2, x3, x4].take 0)) := plen_take_zero (X := [x0, x1, x2, x3, x4]) (k := 0) (by simp) hz hH.out
        clear hH
        go_wp2
        go_round
        case rel => exact ⟨0, by omega, rfl, by have h := hH2.out; rw [hz] at h; exact h⟩
        case measure => first | decide | (simp [intOf]; done) | (simp [intOf]; omega)
      · have HE : Hid ([x0, x1, x2, x3, x4].take 1 = pln [x0, x1, x2, x3, x4]) := (pln_take (X := [x0, x1, x2, x3, x4]) (k := 0) (by simp) hz hH.out).symm
        clear hH
        have hns := hide (five_ns w x0 x1 x2 x3 x4 1 (by omega))
        go_wp2_with (at_builtin; refine Stop.at ?_)
        unfold Stop
        refine append_nums rfl _ _ 22 Try.underlying22 rfl w.heap.size _ [] ([x0, x1, x2, x3, x4].take 1) rfl (OwnN.nil _ _) ⟨w.heap.size, 0, none⟩ 1 5 rfl hns.out (by simp) (by simp) ?_
        intro v' w' hown hgr hbel
        have hB := hide (hbel _ (bel1 w _))
        have hO := hide hown
        clear hown hgr hbel
        go_wp2
        go_ret
        refine ⟨_, rfl, ?_, hB.out⟩
        rw [← HE.out]
        exact hO.out
    · by_cases hz : x1 = 0
      · have hH2 : Hid (plen [x0, x1, x2, x3, x4] = plen ([x0, x1, x2, x3, x4].take 1)) := plen_take_zero (X := [x0, x1, x2, x3, x4]) (k := 1) (by simp) hz hH.out
        clear hH
        go_wp2
        go_round
        case rel => exact ⟨1, by omega, rfl, by have h := hH2.out; rw [hz] at h; exact h⟩
        case measure => first | decide | (simp [intOf]; done) | (simp [intOf]; omega)
      · have HE : Hid ([x0, x1, x2, x3, x4].take 2 = pln [x0, x1, x2, x3, x4]) := (pln_take (X := [x0, x1, x2, x3, x4]) (k := 1) (by simp) hz hH.out).symm
        clear hH
        have hns := hide (five_ns w x0 x1 x2 x3 x4 2 (by omega))
        go_wp2_with (at_builtin; refine Stop.at ?_)
        unfold Stop
        refine append_nums rfl _ _ 22 Try.underlying22 rfl w.heap.size _ [] ([x0, x1, x2, x3, x4].take 2) rfl (OwnN.nil _ _) ⟨w.heap.size, 0, none⟩ 2 5 rfl hns.out (by simp) (by simp) ?_
        intro v' w' hown hgr hbel
        have hB := hide (hbel _ (bel1 w _))
        have hO := hide hown
        clear hown hgr hbel
        go_wp2
        go_ret
        refine ⟨_, rfl, ?_, hB.out⟩
        rw [← HE.out]
        exact hO.out
    · by_cases hz : x2 = 0
      · have hH2 : Hid (plen [x0, x1, x2, x3, x4] = plen ([x0, x1, x2, x3, x4].take 2)) := plen_take_zero (X := [x0, x1, x2, x3, x4]) (k := 2) (by simp) hz hH.out
        clear hH
        go_wp2
        go_round
        case rel => exact ⟨2, by omega, rfl, by have h := hH2.out; rw [hz] at h; exact h⟩
        case measure => first | decide | (simp [intOf]; done) | (simp [intOf]; omega)
      · have HE : Hid ([x0, x1, x2, x3, x4].take 3 = pln [x0, x1, x2, x3, x4]) := (pln_take (X := [x0, x1, x2, x3, x4]) (k := 2) (by simp) hz hH.out).symm
        clear hH
        have hns := hide (five_ns w x0 x1 x2 x3 x4 3 (by omega))
        go_wp2_with (at_builtin; refine Stop.at ?_)
        unfold Stop
        refine append_nums rfl _ _ 22 Try.underlying22 rfl w.heap.size _ [] ([x0, x1, x2, x3, x4].take 3) rfl (OwnN.nil _ _) ⟨w.heap.size, 0, none⟩ 3 5 rfl hns.out (by simp) (by simp) ?_
        intro v' w' hown hgr hbel
        have hB := hide (hbel _ (bel1 w _))
        have hO := hide hown
        clear hown hgr hbel
        go_wp2
        go_ret
        refine ⟨_, rfl, ?_, hB.out⟩
        rw [← HE.out]
        exact hO.out
    · by_cases hz : x3 = 0
      · have hH2 : Hid (plen [x0, x1, x2, x3, x4] = plen ([x0, x1, x2, x3, x4].take 3)) := plen_take_zero (X := [x0, x1, x2, x3, x4]) (k := 3) (by simp) hz hH.out
        clear hH
        go_wp2
        go_round
        case rel => exact ⟨3, by omega, rfl, by have h := hH2.out; rw [hz] at h; exact h⟩
        case measure => first | decide | (simp [intOf]; done) | (simp [intOf]; omega)
      · have HE : Hid ([x0, x1, x2, x3, x4].take 4 = pln [x0, x1, x2, x3, x4]) := (pln_take (X := [x0, x1, x2, x3, x4]) (k := 3) (by simp) hz hH.out).symm
        clear hH
        have hns := hide (five_ns w x0 x1 x2 x3 x4 4 (by omega))
        go_wp2_with (at_builtin; refine Stop.at ?_)
        unfold Stop
        refine append_nums rfl _ _ 22 Try.underlying22 rfl w.heap.size _ [] ([x0, x1, x2, x3, x4].take 4) rfl (OwnN.nil _ _) ⟨w.heap.size, 0, none⟩ 4 5 rfl hns.out (by simp) (by simp) ?_
        intro v' w' hown hgr hbel
        have hB := hide (hbel _ (bel1 w _))
        have hO := hide hown
        clear hown hgr hbel
        go_wp2
        go_ret
        refine ⟨_, rfl, ?_, hB.out⟩
        rw [← HE.out]
        exact hO.out
    · by_cases hz : x4 = 0
      · have hH2 : Hid (plen [x0, x1, x2, x3, x4] = plen ([x0, x1, x2, x3, x4].take 4)) := plen_take_zero (X := [x0, x1, x2, x3, x4]) (k := 4) (by simp) hz hH.out
        clear hH
        go_wp2
        go_round
        case rel => exact ⟨4, by omega, rfl, by have h := hH2.out; rw [hz] at h; exact h⟩
        case measure => first | decide | (simp [intOf]; done) | (simp [intOf]; omega)
      · have HE : Hid ([x0, x1, x2, x3, x4].take 5 = pln [x0, x1, x2, x3, x4]) := (pln_take (X := [x0, x1, x2, x3, x4]) (k := 4) (by simp) hz hH.out).symm
        clear hH
        have hns := hide (five_ns w x0 x1 x2 x3 x4 5 (by omega))
        go_wp2_with (at_builtin; refine Stop.at ?_)
        unfold Stop
        refine append_nums rfl _ _ 22 Try.underlying22 rfl w.heap.size _ [] ([x0, x1, x2, x3, x4].take 5) rfl (OwnN.nil _ _) ⟨w.heap.size, 0, none⟩ 5 5 rfl hns.out (by simp) (by simp) ?_
        intro v' w' hown hgr hbel
        have hB := hide (hbel _ (bel1 w _))
        have hO := hide hown
        clear hown hgr hbel
        go_wp2
        go_ret
        refine ⟨_, rfl, ?_, hB.out⟩
        rw [← HE.out]
        exact hO.out
end Go.Proofs.Ytbeknlpoialgiaa
