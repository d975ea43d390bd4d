/- What 'Text', bytes.Clone and 'GetText' do, the program's and the document's. -/
import Derived.Test.YtbeknlpoialgiaaWRefGet
namespace Go.Proofs.Ytbeknlpoialgiaa
open Go.RowKit
set_option linter.unusedVariables false

theorem CP.cut {a : Option Addr} {n c : Nat} (h : CP a n c) (i k : Nat) (hk : k ≤ n) (hi : i ≤ k) : CP (slA a c i) (k - i) (c - i) := by
  obtain ⟨h1, h2, h3⟩ := h
  refine ⟨by omega, by omega, fun hn => ?_⟩
  unfold slA at hn
  split at hn
  · have := h3 hn; omega
  · rcases a with _ | x
    · have := h3 rfl; omega
    · simp at hn
theorem CP.head {a : Option Addr} {n c : Nat} (h : CP a n c) (k : Nat) (hk : k ≤ n) : CP a k c := ⟨Nat.le_trans hk h.1, h.2.1, h.2.2⟩

theorem q_nil (w : World) (a : Option Addr) (n c : Nat) : (binOp .eql 40 (.slice a n c) (.slice none 0 0)).run Try.prog w = .ok (.bool a.isNone) w := Lib.run_eql_slice_nil w _ _ a n c 0 0 Try.underlying40

set_option maxHeartbeats 1000000 in
set_option maxRecDepth 100000 in
theorem clone_any (a : Option Addr) (n c : Nat) (l : List Int) (w : World) (hA : BS w a n l) (hp : a = none → c = 0) (hbig : n ≤ 1000000) :
    Calls Try.prog 57 #[.slice a n c] w fun e w' => ∃ v, e = .returned v ∧ Own w.heap.size w' v l ∧ Below w.heap.size w w' := by
  have hl := hide hA.1
  have qn := q_nil
  rcases a with _ | x
  · have hc := hp rfl
    have hn0 : n = 0 := by
      rcases hA.2.2.2 with h0 | ⟨b, o, hh, _⟩
      · exact h0
      · cases hh
    subst hc hn0
    obtain rfl := List.eq_nil_of_length_eq_zero hl.out
    go_enter Try.func57, Try.ntmps57
    go_wp2
    go_ret
    exact ⟨_, rfl, ⟨rfl, .inl ⟨rfl, rfl⟩⟩, Below.refl _ _⟩
  · have HA := hide hA
    clear hA
    go_enter Try.func57, Try.ntmps57
    go_wp2_with (at_builtin; refine Stop.at ?_)
    unfold Stop
    refine append_bytes rfl _ _ rfl w.heap.size _ _ l rfl (Own.made w w.heap.size _ rfl (Nat.le_refl _)) _ n c rfl hp (HA.out.alloc _) (by rw [hl.out]; simp; omega) (by simp) ?_
    intro v w1 hown hgrow hbel
    have Hown := hide hown
    have Hbel := hide (hbel w ((Below.refl _ w).alloc (Nat.le_refl _) _))
    clear hown hgrow hbel
    go_wp2
    go_ret
    exact ⟨_, rfl, Hown.out, Hbel.out⟩

set_option maxHeartbeats 1000000 in
set_option maxRecDepth 100000 in
theorem text_any (a : Option Addr) (n c : Nat) (l : List Int) (w : World) (hA : BS w a n l) (hp : a = none → c = 0) (hbig : n ≤ 1000000) :
    Calls Try.prog 50 #[.slice a n c] w fun e w' => ∃ v, e = .returned v ∧ Own w.heap.size w' v (text l) ∧ Below w.heap.size w w' := by
  have hl := hide hA.1
  have HA := hide hA
  clear hA
  have hnb := num_len (n : Int)
  have hnb8 := nb_le (n : Int)
  go_enter Try.func50, Try.ntmps50
  go_wp2_with fail
  refine (num_any (n : Int) w (by omega) (by omega)).mono ?_
  rintro e w1 ⟨v, rfl, hown, hb⟩
  have Hown := hide hown
  have Hb := hide hb
  have hsz := hb.size
  clear hown hb
  go_wp2_with (at_builtin; refine Stop.at ?_)
  unfold Stop
  refine append_bytes rfl _ _ rfl w.heap.size _ _ l rfl Hown.out a n c rfl hp (HA.out.below Hb.out) (by rw [hl.out, hnb]; omega) hsz ?_
  intro v2 w2 hown2 hgrow hbel
  have Hown2 := hide hown2
  have Hbel := hide (hbel w Hb.out)
  clear hown2 hgrow hbel
  go_wp2
  go_ret
  refine ⟨_, rfl, ?_, Hbel.out⟩
  have := Hown2.out
  unfold text
  rw [hl.out]
  exact this

set_option maxHeartbeats 1000000 in
set_option maxRecDepth 100000 in
theorem refText_any (a : Option Addr) (n c : Nat) (l : List Int) (w : World) (hA : BS w a n l) (hp : a = none → c = 0) (hbig : n ≤ 1000000) :
    Calls Try.prog 54 #[.slice a n c] w fun e w' => ∃ v, e = .returned v ∧ Own w.heap.size w' v (text l) ∧ Below w.heap.size w w' := by
  have hl := hide hA.1
  have HA := hide hA
  clear hA
  have hnb := num_len (n : Int)
  have hnb8 := nb_le (n : Int)
  go_enter Try.func54, Try.ntmps54
  go_wp2_with fail
  refine (refNum_any (n : Int) w (by omega) (by omega)).mono ?_
  rintro e w1 ⟨v, rfl, hown, hb⟩
  have Hown := hide hown
  have Hb := hide hb
  have hsz := hb.size
  clear hown hb
  go_wp2_with (at_builtin; refine Stop.at ?_)
  unfold Stop
  refine append_bytes rfl _ _ rfl w.heap.size _ _ l rfl Hown.out a n c rfl hp (HA.out.below Hb.out) (by rw [hl.out, hnb]; omega) hsz ?_
  intro v2 w2 hown2 hgrow hbel
  have Hown2 := hide hown2
  have Hbel := hide (hbel w Hb.out)
  clear hown2 hgrow hbel
  go_wp2
  go_ret
  refine ⟨_, rfl, ?_, Hbel.out⟩
  have := Hown2.out
  unfold text
  rw [hl.out]
  exact this
end Go.Proofs.Ytbeknlpoialgiaa
