/- What 'GetNum' does, the program's and the document's. -/
import Derived.Test.YtbeknlpoialgiaaWPut
namespace Go.Proofs.Ytbeknlpoialgiaa
open Go.RowKit
set_option linter.unusedVariables false

theorem BS.cell0 {w : World} {a : Option Addr} {n : Nat} {x : Int} {l : List Int} (h : BS w a n (x :: l)) : ∃ b o, a = some ⟨b, o, none⟩ ∧ w.cell? ⟨b, o, none⟩ = some (.int .u8 x) ∧ 0 ≤ x ∧ x < 256 ∧ n = l.length + 1 := by
  obtain ⟨g1, g2, g3, g4⟩ := h
  rcases g4 with h0 | ⟨b, o, rfl, hc⟩
  · subst h0; simp at g1
  · have q := hc 0 (by rw [← g1]; simp)
    exact ⟨b, o, rfl, by simpa using q, (By.head g3).1, (By.head g3).2, by rw [← g1]; simp⟩

theorem BS.at {w : World} {b o n : Nat} {l : List Int} (h : BS w (some ⟨b, o, none⟩) n l) (i k : Nat) (hk : i + k ≤ n) : BS w (some ⟨b, o + i, none⟩) k ((l.drop i).take k) := by
  obtain ⟨g1, g2, g3, g4⟩ := h
  refine ⟨by rw [List.length_take, List.length_drop]; omega, by omega, By.take (By.drop g3 i) k, ?_⟩
  rcases Nat.eq_zero_or_pos k with h0 | hp
  · exact .inl h0
  · rcases g4 with h0 | ⟨b', o', hh, hc⟩
    · omega
    · cases hh
      refine .inr ⟨_, _, rfl, fun t ht => ?_⟩
      have h4 : ((l.drop i).take k).getD t 0 = l.getD (i + t) 0 := by simp [List.getD_eq_getElem?_getD, ht]
      rw [h4, Nat.add_assoc]
      exact hc (i + t) (by omega)

set_option maxHeartbeats 1000000 in
set_option maxRecDepth 100000 in
theorem getNum_any (a : Option Addr) (n c : Nat) (l : List Int) (w : World) (hA : BS w a n l) (hC : CP a n c) :
    Calls Try.prog 51 #[.slice a n c] w fun e w' => ((getNum l = none ∧ e = .returned (.tuple #[.int .u64 0, .int .i64 0, .int .i64 2])) ∨ ∃ (x : Int) (m : Nat), getNum l = some (x, m) ∧ e = .returned (.tuple #[.int .u64 x, .int .i64 (m : Int), .int .i64 0])) ∧ w' = w := by
  rcases l with _ | ⟨y, r⟩
  · have hn : n = 0 := by have := hA.1; simpa using this.symm
    subst hn
    go_enter Try.func51, Try.ntmps51
    go_wp2
    go_ret3
    exact ⟨.inl ⟨rfl, rfl⟩, rfl⟩
  · have HA := hide hA
    obtain ⟨b, o, rfl, q, hy0, hy1, hn⟩ := hA.cell0
    have hn0 : ((n : Int) == 0) = false := by simp; omega
    have hmax := hA.2.1
    unfold maxLen at hmax
    have hGN := hide (getNum_cons y r)
    obtain ⟨k, rfl⟩ := Int.eq_ofNat_of_zero_le hy0
    have hrl : r.length = n - 1 := by omega
    have Hrl := hide hrl
    have hnp : 0 < n := by omega
    clear hA hn hrl
    by_cases h8 : 8 < k
    · have h8' : (8 : Int) < k := by omega
      go_enter Try.func51, Try.ntmps51
      go_wp2
      go_ret3
      exact ⟨.inl ⟨by rw [hGN.out, if_pos (.inl h8')], rfl⟩, rfl⟩
    · by_cases hlen : n < 1 + k
      · have hlen' : (n : Int) < 1 + k := by omega
        go_enter Try.func51, Try.ntmps51
        go_wp2
        go_ret3
        exact ⟨.inl ⟨by rw [hGN.out, if_pos (.inr (.inl (by have := Hrl.out; simp; omega)))], rfl⟩, rfl⟩
      · have hlen' : ¬ (n : Int) < 1 + k := by omega
        have hcn := hC.1
        have hcm := hC.2.1
        unfold maxLen at hcm
        by_cases hc1 : c = 1
        · subst hc1
          have hn1 : n = 1 := by omega
          have hk0 : k = 0 := by omega
          subst hn1 hk0
          go_enter Try.func51, Try.ntmps51
          go_wp2_with fail
          refine (ahead_any _ 0 _ [] w (BS.nil _ _)).mono ?_
          rintro e w' ⟨rfl, rfl⟩
          go_wp2_with fail
          refine (value_any _ 0 _ [] w' (BS.nil _ _) (by omega)).mono ?_
          rintro e w' ⟨rfl, rfl⟩
          go_wp2
          go_ret3
          exact ⟨.inr ⟨0, 1, by have := List.eq_nil_of_length_eq_zero Hrl.out; subst this; decide, rfl⟩, rfl⟩
        · have hbs := hide (HA.out.at 1 k (by omega))
          have hdr : Hid ((((k : Int) :: r).drop 1).take k = r.take k) := rfl
          have hn8 : k ≤ 8 := by omega
          by_cases hz : nz (r.take k)
          · have hres : Hid (getNum ((k : Int) :: r) = some (val (r.take k), 1 + k)) := by
              refine hide ?_
              rw [hGN.out, if_neg]
              · simp; omega
              · rintro (h | h | h)
                · omega
                · have := Hrl.out; simp at h; omega
                · exact h (by simpa using hz)
            have hzd : (decide (¬ nz (r.take k))) = false := decide_eq_false (fun h => h hz)
            have Hzd := hide hzd
            clear hGN hzd hz
            go_enter Try.func51, Try.ntmps51
            go_wp2_with fail
            refine (ahead_any _ _ _ (r.take k) w hbs.out).mono ?_
            rintro e w' ⟨rfl, rfl⟩
            rw [Hzd.out]
            go_wp2_with fail
            refine (value_any _ _ _ (r.take k) w' hbs.out hn8).mono ?_
            rintro e w' ⟨rfl, rfl⟩
            go_wp2
            go_ret3
            exact ⟨.inr ⟨_, _, hres.out, by simp⟩, rfl⟩
          · have hres : Hid (getNum ((k : Int) :: r) = none) := by
              refine hide ?_
              rw [hGN.out, if_pos]
              exact .inr (.inr (by simpa using hz))
            have hzd : (decide (¬ nz (r.take k))) = true := decide_eq_true hz
            have Hzd := hide hzd
            clear hGN hzd hz
            go_enter Try.func51, Try.ntmps51
            go_wp2_with fail
            refine (ahead_any _ _ _ (r.take k) w hbs.out).mono ?_
            rintro e w' ⟨rfl, rfl⟩
            rw [Hzd.out]
            go_wp2
            go_ret3
            exact ⟨.inl ⟨hres.out, rfl⟩, rfl⟩
end Go.Proofs.Ytbeknlpoialgiaa
