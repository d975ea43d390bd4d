/- What the document's 'Packs' does: are lists of texts the same? -/
import Derived.Test.YtgmimneendnfgaaWPack
namespace Go.Proofs.Ytgmimneendnfgaa
open Go.RowKit
set_option linter.unusedVariables false

theorem take_eqP {l m : List (List Int)} (k : Nat) (hl : k < l.length) (hm : k < m.length) (h : l.take k = m.take k) (he : l.getD k [] = m.getD k []) : l.take (k + 1) = m.take (k + 1) := by
  rw [List.take_succ_eq_append_getElem hl, List.take_succ_eq_append_getElem hm, h]
  simp [List.getD_eq_getElem?_getD, hl, hm] at he
  rw [he]

set_option maxHeartbeats 4000000 in
set_option maxRecDepth 100000 in
theorem packs_any (a b : Option Addr) (n c m d : Nat) (l k : List (List Int)) (w : World) (hA : PC w a n l) (hB : PC w b m k) :
    Calls Try.prog 24 #[.slice a n c, .slice b m d] w fun e w' => e = .returned (.bool (decide (l = k))) ∧ Below w.heap.size w w' := by
  have G1 := hide hA.1
  have H1 := hide hB.1
  have HA := hide hA
  have HB := hide hB
  have g2 := hA.2.1
  have h2 := hB.2.1
  unfold maxLen at g2 h2
  clear hA hB
  by_cases hnm : n = m
  · subst hnm
    go_enter Try.func24, Try.ntmps24
    go_wp2
    go_loopw [5] (fun i wr => ∃ j : Nat, j ≤ n ∧ i = .int .i64 j ∧ Hid (l.take j = k.take j) ∧ Hid (Below w.heap.size w wr)) (fun i _ => n - (intOf i).toNat)
    case atStart => exact ⟨0, by omega, rfl, rfl, Below.refl _ _⟩
    case round =>
      obtain ⟨j, hj, rfl, hE, hW⟩ := hrel
      by_cases hlt : j < n
      · obtain ⟨b1, o1, x1, n1, c1, rfl, q1, s1, _⟩ := (HA.out.below hW.out).at j hlt
        obtain ⟨b2, o2, x2, n2, c2, rfl, q2, s2, _⟩ := (HB.out.below hW.out).at j hlt
        have hE2 := fun he => hide (take_eqP j (by rw [G1.out]; exact hlt) (by rw [H1.out]; exact hlt) hE.out he)
        have hN2 : ∀ he : l.getD j [] ≠ k.getD j [], Hid (¬ l = k) := fun he e => he (by rw [e])
        generalize l.getD j [] = x at s1 hE2 hN2
        generalize k.getD j [] = y at s2 hE2 hN2
        have S1 := hide s1
        have S2 := hide s2
        have hltI : (j : Int) < (n : Int) := by omega
        have hsz := hW.out.size
        clear s1 s2
        by_cases he : x = y
        · have hE3 := hE2 he
          subst he
          clear hN2 hE2
          go_wp2
          go_region_with (go_at_call 11; refine (bytes_as _ _ _ _ _ _ x x _ true (by simp) (by exact S1.out.drew) (by exact S2.out.drew)).mono ?_; rintro e w2 ⟨rfl, hb2⟩)
          all_goals
            have hW2 := hide ((hW.out.drew).trans (hb2.mono (by exact hsz)))
            clear hb2
            go_wp2
            go_roundw
            case rel => exact ⟨j + 1, by omega, by go_num, hE3, hW2⟩
            case measure => simp [intOf]; omega
        · have hlk := hN2 he
          have he2 := hide (show decide (x = y) = false by simpa using he)
          clear hE2 hN2 he
          go_wp2
          go_region_with (go_at_call 11; refine (bytes_as _ _ _ _ _ _ x y _ false he2.out (by exact S1.out.drew) (by exact S2.out.drew)).mono ?_; rintro e w2 ⟨rfl, hb2⟩)
          all_goals
            have hW2 := hide ((hW.out.drew).trans (hb2.mono (by exact hsz)))
            clear hb2
            go_wp2
            go_ret
            exact ⟨ret_bool (by simp [hlk.out]), hW2.out⟩
      · have : j = n := by omega
        subst this
        have hlk : Hid (l = k) := by
          have := hE.out
          rw [List.take_of_length_le (by rw [G1.out]; exact Nat.le_refl _), List.take_of_length_le (by rw [H1.out]; exact Nat.le_refl _)] at this
          exact this
        go_wp2
        go_ret
        exact ⟨ret_bool (by simp [hlk.out]), hW.out⟩
  · have hne : ((n : Int) != (m : Int)) = true := by simp; omega
    have hlk : Hid (¬ l = k) := fun e => hnm (by rw [← G1.out, ← H1.out, e])
    go_enter Try.func24, Try.ntmps24
    go_wp2
    go_ret
    exact ⟨ret_bool (by simp [hlk.out]), Below.refl _ _⟩
end Go.Proofs.Ytgmimneendnfgaa
