/- What the document's 'GetNum' does. -/
import Derived.Test.YtbeknlpoialgiaaWGet
import Derived.Deep.RegionWith
import Derived.Deep.RegionHeld3
namespace Go.Proofs.Ytbeknlpoialgiaa
open Go.RowKit
set_option linter.unusedVariables false

theorem bytes_as (a b : Option Addr) (n c m d : Nat) (l k : List Int) (w : World) (r : Bool) (hr : decide (l = k) = r) (hA : BS w a n l) (hB : BS w b m k) :
    Calls Try.prog 33 #[.slice a n c, .slice b m d] w fun e w' => e = .returned (.bool r) ∧ Below w.heap.size w w' := by
  rw [← hr]; exact bytes_any a b n c m d l k w hA hB

theorem num_is (k : Nat) (r : List Int) (hk : k ≤ r.length) (h8 : k ≤ 8) (hr : By r) : decide (num (val (r.take k)) = ((k : Int) :: r).take (k + 1)) = decide (nz (r.take k)) := by
  have hl : (r.take k).length = k := by rw [List.length_take]; omega
  have := num_val_iff (r.take k) (hr.take k) (by omega)
  rw [hl] at this
  simp only [List.take_succ_cons]
  exact decide_eq_decide.2 this

set_option maxHeartbeats 4000000 in
set_option maxRecDepth 100000 in
theorem refGetNum_any (a : Option Addr) (n c : Nat) (l : List Int) (w : World) (hA : BS w a n l) (hC : CP a n c) :
    Calls Try.prog 46 #[.slice a n c] w fun e w' => ((getNum l = none ∧ e = .returned (.tuple #[.int .u64 0, .int .i64 0])) ∨ ∃ (x : Int) (m : Nat), getNum l = some (x, m) ∧ e = .returned (.tuple #[.int .u64 x, .int .i64 (m : Int)])) ∧ Below w.heap.size w w' := by
  rcases l with _ | ⟨y, r⟩
  · have hn : n = 0 := by have := hA.1; simpa using this.symm
    subst hn
    go_enter Try.func46, Try.ntmps46
    go_wp2
    go_ret2
    exact ⟨.inl ⟨rfl, rfl⟩, Below.refl _ _⟩
  · have HA := hide hA
    have HB : Hid (By r) := By.tail hA.2.2.1
    obtain ⟨b, o, rfl, q, hy0, hy1, hn⟩ := hA.cell0
    have hn0 : ((n : Int) == 0) = false := by simp; omega
    have hmax := hA.2.1
    unfold maxLen at hmax
    have hGN := hide (getNum_cons y r)
    obtain ⟨k, rfl⟩ := Int.eq_ofNat_of_zero_le hy0
    have hrl : r.length = n - 1 := by omega
    have Hrl := hide hrl
    have hnp : 0 < n := by omega
    clear hA hn hrl
    by_cases h8 : 8 < k
    · have h8' : (8 : Int) < k := by omega
      go_enter Try.func46, Try.ntmps46
      go_wp2
      go_ret2
      exact ⟨.inl ⟨by rw [hGN.out, if_pos (.inl h8')], rfl⟩, Below.refl _ _⟩
    · by_cases hlen : n < 1 + k
      · have hlen' : (n : Int) < k + 1 := by omega
        have h8' : decide ((8 : Int) < k) = false := by simp; omega
        go_enter Try.func46, Try.ntmps46
        go_wp2
        go_ret2
        exact ⟨.inl ⟨by rw [hGN.out, if_pos (.inr (.inl (by have := Hrl.out; simp; omega)))], rfl⟩, Below.refl _ _⟩
      · have hlen' : ¬ (n : Int) < k + 1 := by omega
        have h8' : decide ((8 : Int) < k) = false := by simp; omega
        have hcn := hC.1
        have hcm := hC.2.1
        unfold maxLen at hcm
        have hHead := hide (HA.out.head (k + 1) (by omega))
        go_enter Try.func46, Try.ntmps46
        go_wp2
        go_loop [5, 6] (fun u i => ∃ (j : Nat) (x : Int), 1 ≤ j ∧ j ≤ k + 1 ∧ i = .int .i64 j ∧ u = .int .u64 x ∧ 0 ≤ x ∧ x < 18446744073709551616 ∧ Hid (x = val (r.take (j - 1)))) (fun _ i => k + 1 - (intOf i).toNat)
        case atStart => exact ⟨1, 0, by omega, by omega, rfl, rfl, by omega, by omega, rfl⟩
        case round =>
          obtain ⟨j, x, hj1, hjk, rfl, rfl, hx0, hx1, hx⟩ := hrel
          by_cases hlt : j < k + 1
          · obtain ⟨i, rfl⟩ : ∃ i, j = i + 1 := ⟨j - 1, by omega⟩
            have hx : Hid (x = val (r.take i)) := hx
            have q2 : w.cell? ⟨b, o + (i + 1), none⟩ = some (.int .u8 (r.getD i 0)) := by
              rcases HA.out.2.2.2 with h0 | ⟨b', o', hh, hc⟩
              · omega
              · cases hh
                exact hc (i + 1) (by omega)
            have hb0 := (getD_byte HB.out i).1
            have hb1 := (getD_byte HB.out i).2
            have hv := hide (val_take r i (by rw [Hrl.out]; omega))
            have hx7 : x < 72057594037927936 := by
              have h1 := (val_bd (r.take i) (By.take HB.out i)).2
              rw [← hx.out, List.length_take, Hrl.out] at h1
              have h2 := pow7 (min i (n - 1)) (by omega)
              omega
            generalize r.getD i 0 = y at q2 hb0 hb1 hv
            have hltI : (i : Int) + 1 < (n : Int) := by omega
            go_wp2
            go_round
            case rel => exact ⟨i + 1 + 1, x * 256 + y, by omega, by omega, by go_num, rfl, by omega, by omega, by show _ = val (r.take (i + 1)); rw [hv.out, hx.out]⟩
            case measure => simp [intOf]; omega
          · have hjk2 : j = k + 1 := by omega
            subst hjk2
            have hx : Hid (x = val (r.take k)) := hx
            have hnis := hide (num_is k r (by rw [Hrl.out]; omega) (by omega) HB.out)
            rw [← hx.out] at hnis
            have hci : (k : Int) + 1 ≤ (c : Int) := by omega
            have hc0 : (0 : Int) ≤ (k : Int) + 1 := by omega
            by_cases hz : nz (r.take k)
            · have hres : Hid (getNum ((k : Int) :: r) = some (x, k + 1)) := by
                refine hide ?_
                rw [hGN.out, if_neg]
                · simp [hx.out]
                · rintro (h | h | h)
                  · omega
                  · have := Hrl.out; simp at h; omega
                  · exact h (by simpa using hz)
              have hd : decide (num x = ((k : Int) :: r).take (k + 1)) = true := by rw [hnis.out]; simpa using hz
              have Hd := hide hd
              clear hd hz hGN hnis
              go_wp2_with fail
              go_region_held3 (fun _ => True) (trivial) (first
                | (go_at_call 47; refine (refNum_any x _ hx0 hx1).mono ?_; rintro e w1 ⟨v, rfl, hown, hb⟩; obtain ⟨p, cap, rfl, hbs, hcp⟩ := hown.open (num_by x); have Hbs := hide hbs; have Hb := hide hb; clear hown hbs hb)
                | (go_at_call 33; refine (bytes_as _ _ _ _ _ _ (num x) (((k : Int) :: r).take (k + 1)) _ true Hd.out (by exact Hbs.out) (by exact hHead.out.drew.below Hb.out)).mono ?_; rintro e w2 ⟨rfl, hb2⟩))
              go_wp2
              go_ret2
              have z := Hb.out.size
              exact ⟨.inr ⟨_, _, hres.out, by simp⟩, ((Below.refl _ w).drew.trans Hb.out).trans (hb2.mono z)⟩
            · have hres : Hid (getNum ((k : Int) :: r) = none) := by
                refine hide ?_
                rw [hGN.out, if_pos]
                exact .inr (.inr (by simpa using hz))
              have hd : decide (num x = ((k : Int) :: r).take (k + 1)) = false := by rw [hnis.out]; simpa using hz
              have Hd := hide hd
              clear hd hz hGN hnis
              go_wp2_with fail
              go_region_held3 (fun _ => True) (trivial) (first
                | (go_at_call 47; refine (refNum_any x _ hx0 hx1).mono ?_; rintro e w1 ⟨v, rfl, hown, hb⟩; obtain ⟨p, cap, rfl, hbs, hcp⟩ := hown.open (num_by x); have Hbs := hide hbs; have Hb := hide hb; clear hown hbs hb)
                | (go_at_call 33; refine (bytes_as _ _ _ _ _ _ (num x) (((k : Int) :: r).take (k + 1)) _ false Hd.out (by exact Hbs.out) (by exact hHead.out.drew.below Hb.out)).mono ?_; rintro e w2 ⟨rfl, hb2⟩))
              go_wp2
              go_ret2
              have z := Hb.out.size
              exact ⟨.inl ⟨hres.out, rfl⟩, ((Below.refl _ w).drew.trans Hb.out).trans (hb2.mono z)⟩
end Go.Proofs.Ytbeknlpoialgiaa
