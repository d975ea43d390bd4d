/- What 'Order' and 'Meet' do. -/
import Derived.Test.YtbeknlpoialgiaaCSet
namespace Go.Proofs.Ytbeknlpoialgiaa
open Go.RowKit
set_option linter.unusedVariables false

theorem Two.made (x0 x1 x2 x3 x4 y0 y1 y2 y3 y4 : Int) (w0 w : World) (hb : Below w0.heap.size w0 w) : Two w.heap.size x0 x1 x2 x3 x4 y0 y1 y2 y3 y4 w0 ((w.alloc (.cells #[.int .i64 x0, .int .i64 x1, .int .i64 x2, .int .i64 x3, .int .i64 x4] 51)).alloc (.cells #[.int .i64 y0, .int .i64 y1, .int .i64 y2, .int .i64 y3, .int .i64 y4] 51)) := by
  refine ⟨?_, ?_, ?_, ?_, ?_, ?_, ?_, ?_, ?_, ?_, (hb.alloc hb.size _).alloc (by simp; have := hb.size; omega) _⟩
  all_goals first | (rw [World.cell?_alloc_mark]; rfl) | (simp; done)

theorem mn_eq2 (x y : Int) : (if y < x then y else x) = min x y := by rw [mn_eq]; omega
theorem eq_of_wth {c d : List Int} (h1 : wth c d) (h2 : wth d c) : at5 c 0 = at5 d 0 ∧ at5 c 1 = at5 d 1 ∧ at5 c 2 = at5 d 2 ∧ at5 c 3 = at5 d 3 ∧ at5 c 4 = at5 d 4 := by
  unfold wth at h1 h2; omega
theorem wth_of_eq {c d : List Int} (h : at5 c 0 = at5 d 0 ∧ at5 c 1 = at5 d 1 ∧ at5 c 2 = at5 d 2 ∧ at5 c 3 = at5 d 3 ∧ at5 c 4 = at5 d 4) : wth c d ∧ wth d c := by
  unfold wth; omega

set_option maxHeartbeats 2000000 in
theorem Order_any (a b : Option Addr) (n cap m cap' : Nat) (c d : List Int) (w : World) (hN : NS w a n c) (hM : NS w b m d) :
    Calls Try.prog 28 #[.slice a n cap, .slice b m cap'] w fun e w' => e = .returned (.int .i64 (ordL c d)) ∧ Below w.heap.size w w' := by
  have HN := hide hN
  have HM := hide hM
  clear hN hM
  by_cases h1 : wth c d
  · by_cases h2 : wth d c
    · have HE : Hid (0 = ordL c d) := by unfold Hid ordL; rw [if_pos h1, if_pos h2]
      have heq := eq5 (at5 c 0) (at5 c 1) (at5 c 2) (at5 c 3) (at5 c 4) (at5 d 0) (at5 d 1) (at5 d 2) (at5 d 3) (at5 d 4) true (by symm; rw [decide_eq_true_iff]; exact eq_of_wth h1 h2)
      have HW1 := hide (fun w => within_any (at5 c 0) (at5 c 1) (at5 c 2) (at5 c 3) (at5 c 4) (at5 d 0) (at5 d 1) (at5 d 2) (at5 d 3) (at5 d 4) w true (by symm; exact decide_eq_true h1))
      have HW2 := hide (fun w => within_any (at5 d 0) (at5 d 1) (at5 d 2) (at5 d 3) (at5 d 4) (at5 c 0) (at5 c 1) (at5 c 2) (at5 c 3) (at5 c 4) w true (by symm; exact decide_eq_true h2))
      clear h1 h2
      go_enter Try.func28, Try.ntmps28
      go_wp2_with (first
        | (go_at_call_of 37 a; refine (numbers_any _ _ _ c _ HN.out).mono ?_; rintro e w1 ⟨rfl, hb1⟩; have HB1 := hide hb1; clear hb1)
        | (go_at_call 37; refine (numbers_any _ _ _ d _ (HM.out.below HB1.out)).mono ?_; rintro e w2 ⟨rfl, hb2⟩; have HB2 := hide (bel_next HB1.out hb2); clear hb2; refine Stop.at ?_))
      unfold Stop
      have T0 := Two.made (at5 c 0) (at5 c 1) (at5 c 2) (at5 c 3) (at5 c 4) (at5 d 0) (at5 d 1) (at5 d 2) (at5 d 3) (at5 d 4) w w2 HB2.out
      generalize at5 c 0 = x0 at *
      generalize at5 c 1 = x1 at *
      generalize at5 c 2 = x2 at *
      generalize at5 c 3 = x3 at *
      generalize at5 c 4 = x4 at *
      generalize at5 d 0 = y0 at *
      generalize at5 d 1 = y1 at *
      generalize at5 d 2 = y2 at *
      generalize at5 d 3 = y3 at *
      generalize at5 d 4 = y4 at *
      have HT0 := hide T0
      clear T0
      go_wp2
      go_ret
      exact ⟨ret_int HE.out, HT0.out.2.2.2.2.2.2.2.2.2.2.out⟩
    · have HE : Hid (-1 = ordL c d) := by unfold Hid ordL; rw [if_pos h1, if_neg h2]
      have heq := eq5 (at5 c 0) (at5 c 1) (at5 c 2) (at5 c 3) (at5 c 4) (at5 d 0) (at5 d 1) (at5 d 2) (at5 d 3) (at5 d 4) false (by symm; rw [decide_eq_false_iff_not]; intro hh; have := wth_of_eq hh; exact absurd this (by exact fun t => h2 t.2))
      have HW1 := hide (fun w => within_any (at5 c 0) (at5 c 1) (at5 c 2) (at5 c 3) (at5 c 4) (at5 d 0) (at5 d 1) (at5 d 2) (at5 d 3) (at5 d 4) w true (by symm; exact decide_eq_true h1))
      have HW2 := hide (fun w => within_any (at5 d 0) (at5 d 1) (at5 d 2) (at5 d 3) (at5 d 4) (at5 c 0) (at5 c 1) (at5 c 2) (at5 c 3) (at5 c 4) w false (by symm; exact decide_eq_false h2))
      clear h1 h2
      go_enter Try.func28, Try.ntmps28
      go_wp2_with (first
        | (go_at_call_of 37 a; refine (numbers_any _ _ _ c _ HN.out).mono ?_; rintro e w1 ⟨rfl, hb1⟩; have HB1 := hide hb1; clear hb1)
        | (go_at_call 37; refine (numbers_any _ _ _ d _ (HM.out.below HB1.out)).mono ?_; rintro e w2 ⟨rfl, hb2⟩; have HB2 := hide (bel_next HB1.out hb2); clear hb2; refine Stop.at ?_))
      unfold Stop
      have T0 := Two.made (at5 c 0) (at5 c 1) (at5 c 2) (at5 c 3) (at5 c 4) (at5 d 0) (at5 d 1) (at5 d 2) (at5 d 3) (at5 d 4) w w2 HB2.out
      generalize at5 c 0 = x0 at *
      generalize at5 c 1 = x1 at *
      generalize at5 c 2 = x2 at *
      generalize at5 c 3 = x3 at *
      generalize at5 c 4 = x4 at *
      generalize at5 d 0 = y0 at *
      generalize at5 d 1 = y1 at *
      generalize at5 d 2 = y2 at *
      generalize at5 d 3 = y3 at *
      generalize at5 d 4 = y4 at *
      have HT0 := hide T0
      clear T0
      go_wp2_with (go_at_call 40; refine Stop.at ?_)
      unfold Stop
      refine (HW1.out _).mono ?_
      rintro e w3 ⟨rfl, hb3⟩
      have T1 := HT0.out.next hb3
      unfold Two at T1
      have HZ1 := hide T1.2.2.2.2.2.2.2.2.2.2.out
      clear hb3
      go_wp2
      go_ret
      exact ⟨ret_int HE.out, HZ1.out⟩
  · by_cases h2 : wth d c
    · have HE : Hid (1 = ordL c d) := by unfold Hid ordL; rw [if_neg h1, if_pos h2]
      have heq := eq5 (at5 c 0) (at5 c 1) (at5 c 2) (at5 c 3) (at5 c 4) (at5 d 0) (at5 d 1) (at5 d 2) (at5 d 3) (at5 d 4) false (by symm; rw [decide_eq_false_iff_not]; intro hh; have := wth_of_eq hh; exact absurd this (by exact fun t => h1 t.1))
      have HW1 := hide (fun w => within_any (at5 c 0) (at5 c 1) (at5 c 2) (at5 c 3) (at5 c 4) (at5 d 0) (at5 d 1) (at5 d 2) (at5 d 3) (at5 d 4) w false (by symm; exact decide_eq_false h1))
      have HW2 := hide (fun w => within_any (at5 d 0) (at5 d 1) (at5 d 2) (at5 d 3) (at5 d 4) (at5 c 0) (at5 c 1) (at5 c 2) (at5 c 3) (at5 c 4) w true (by symm; exact decide_eq_true h2))
      clear h1 h2
      go_enter Try.func28, Try.ntmps28
      go_wp2_with (first
        | (go_at_call_of 37 a; refine (numbers_any _ _ _ c _ HN.out).mono ?_; rintro e w1 ⟨rfl, hb1⟩; have HB1 := hide hb1; clear hb1)
        | (go_at_call 37; refine (numbers_any _ _ _ d _ (HM.out.below HB1.out)).mono ?_; rintro e w2 ⟨rfl, hb2⟩; have HB2 := hide (bel_next HB1.out hb2); clear hb2; refine Stop.at ?_))
      unfold Stop
      have T0 := Two.made (at5 c 0) (at5 c 1) (at5 c 2) (at5 c 3) (at5 c 4) (at5 d 0) (at5 d 1) (at5 d 2) (at5 d 3) (at5 d 4) w w2 HB2.out
      generalize at5 c 0 = x0 at *
      generalize at5 c 1 = x1 at *
      generalize at5 c 2 = x2 at *
      generalize at5 c 3 = x3 at *
      generalize at5 c 4 = x4 at *
      generalize at5 d 0 = y0 at *
      generalize at5 d 1 = y1 at *
      generalize at5 d 2 = y2 at *
      generalize at5 d 3 = y3 at *
      generalize at5 d 4 = y4 at *
      have HT0 := hide T0
      clear T0
      go_wp2_with (go_at_call 40; refine Stop.at ?_)
      unfold Stop
      refine (HW1.out _).mono ?_
      rintro e w3 ⟨rfl, hb3⟩
      have T1 := HT0.out.next hb3
      unfold Two at T1
      have HZ1 := hide T1.2.2.2.2.2.2.2.2.2.2.out
      clear hb3
      go_wp2_with (go_at_call 40; refine (HW2.out _).mono ?_; rintro e w4 ⟨rfl, hb4⟩; have HB4 := hide hb4; clear hb4)
      go_ret
      exact ⟨ret_int HE.out, bel_next HZ1.out HB4.out⟩
    · have HE : Hid (2 = ordL c d) := by unfold Hid ordL; rw [if_neg h1, if_neg h2]
      have heq := eq5 (at5 c 0) (at5 c 1) (at5 c 2) (at5 c 3) (at5 c 4) (at5 d 0) (at5 d 1) (at5 d 2) (at5 d 3) (at5 d 4) false (by symm; rw [decide_eq_false_iff_not]; intro hh; have := wth_of_eq hh; exact absurd this (by exact fun t => h1 t.1))
      have HW1 := hide (fun w => within_any (at5 c 0) (at5 c 1) (at5 c 2) (at5 c 3) (at5 c 4) (at5 d 0) (at5 d 1) (at5 d 2) (at5 d 3) (at5 d 4) w false (by symm; exact decide_eq_false h1))
      have HW2 := hide (fun w => within_any (at5 d 0) (at5 d 1) (at5 d 2) (at5 d 3) (at5 d 4) (at5 c 0) (at5 c 1) (at5 c 2) (at5 c 3) (at5 c 4) w false (by symm; exact decide_eq_false h2))
      clear h1 h2
      go_enter Try.func28, Try.ntmps28
      go_wp2_with (first
        | (go_at_call_of 37 a; refine (numbers_any _ _ _ c _ HN.out).mono ?_; rintro e w1 ⟨rfl, hb1⟩; have HB1 := hide hb1; clear hb1)
        | (go_at_call 37; refine (numbers_any _ _ _ d _ (HM.out.below HB1.out)).mono ?_; rintro e w2 ⟨rfl, hb2⟩; have HB2 := hide (bel_next HB1.out hb2); clear hb2; refine Stop.at ?_))
      unfold Stop
      have T0 := Two.made (at5 c 0) (at5 c 1) (at5 c 2) (at5 c 3) (at5 c 4) (at5 d 0) (at5 d 1) (at5 d 2) (at5 d 3) (at5 d 4) w w2 HB2.out
      generalize at5 c 0 = x0 at *
      generalize at5 c 1 = x1 at *
      generalize at5 c 2 = x2 at *
      generalize at5 c 3 = x3 at *
      generalize at5 c 4 = x4 at *
      generalize at5 d 0 = y0 at *
      generalize at5 d 1 = y1 at *
      generalize at5 d 2 = y2 at *
      generalize at5 d 3 = y3 at *
      generalize at5 d 4 = y4 at *
      have HT0 := hide T0
      clear T0
      go_wp2_with (go_at_call 40; refine Stop.at ?_)
      unfold Stop
      refine (HW1.out _).mono ?_
      rintro e w3 ⟨rfl, hb3⟩
      have T1 := HT0.out.next hb3
      unfold Two at T1
      have HZ1 := hide T1.2.2.2.2.2.2.2.2.2.2.out
      clear hb3
      go_wp2_with (go_at_call 40; refine (HW2.out _).mono ?_; rintro e w4 ⟨rfl, hb4⟩; have HB4 := hide hb4; clear hb4)
      go_ret
      exact ⟨ret_int HE.out, bel_next HZ1.out HB4.out⟩

/-- What is met behind 'k' rounds. -/
def mw (k : Nat) (x0 x1 x2 x3 x4 y0 y1 y2 y3 y4 : Int) : Array Value :=
  match k with
  | 0 => #[.int .i64 x0, .int .i64 x1, .int .i64 x2, .int .i64 x3, .int .i64 x4]
  | 1 => #[.int .i64 (min x0 y0), .int .i64 x1, .int .i64 x2, .int .i64 x3, .int .i64 x4]
  | 2 => #[.int .i64 (min x0 y0), .int .i64 (min x1 y1), .int .i64 x2, .int .i64 x3, .int .i64 x4]
  | 3 => #[.int .i64 (min x0 y0), .int .i64 (min x1 y1), .int .i64 (min x2 y2), .int .i64 x3, .int .i64 x4]
  | 4 => #[.int .i64 (min x0 y0), .int .i64 (min x1 y1), .int .i64 (min x2 y2), .int .i64 (min x3 y3), .int .i64 x4]
  | _ => #[.int .i64 (min x0 y0), .int .i64 (min x1 y1), .int .i64 (min x2 y2), .int .i64 (min x3 y3), .int .i64 (min x4 y4)]

set_option maxHeartbeats 2000000 in
theorem Meet_any (a b : Option Addr) (n cap m cap' : Nat) (c d : List Int) (w : World) (hN : NS w a n c) (hM : NS w b m d) :
    Calls Try.prog 24 #[.slice a n cap, .slice b m cap'] w fun e w' => ∃ v, e = .returned v ∧ OwnN w.heap.size w' v (pln (meetL c d)) ∧ Below w.heap.size w w' := by
  have HN := hide hN
  have HM := hide hM
  clear hN hM
  go_enter Try.func24, Try.ntmps24
  go_wp2_with (first
    | (go_at_call_of 37 a; refine (numbers_any _ _ _ c _ HN.out).mono ?_; rintro e w1 ⟨rfl, hb1⟩; have HB1 := hide hb1; clear hb1)
    | (go_at_call 37; refine (numbers_any _ _ _ d _ (HM.out.below HB1.out)).mono ?_; rintro e w2 ⟨rfl, hb2⟩; have HB2 := hide (bel_next HB1.out hb2); clear hb2; refine Stop.at ?_))
  unfold Stop
  have HE : Hid (pln [min (at5 c 0) (at5 d 0), min (at5 c 1) (at5 d 1), min (at5 c 2) (at5 d 2), min (at5 c 3) (at5 d 3), min (at5 c 4) (at5 d 4)] = pln (meetL c d)) := rfl
  generalize at5 c 0 = x0 at *
  generalize at5 c 1 = x1 at *
  generalize at5 c 2 = x2 at *
  generalize at5 c 3 = x3 at *
  generalize at5 c 4 = x4 at *
  generalize at5 d 0 = y0 at *
  generalize at5 d 1 = y1 at *
  generalize at5 d 2 = y2 at *
  generalize at5 d 3 = y3 at *
  generalize at5 d 4 = y4 at *
  go_wp2
  go_loopw [12] (fun i wr => ∃ (k : Nat) (w0 : World), k ≤ 5 ∧ i = .int .i64 k ∧ w0.heap.size = w2.heap.size ∧ Hid (Below w.heap.size w w0) ∧
    wr = (w0.alloc (.cells (mw k x0 x1 x2 x3 x4 y0 y1 y2 y3 y4) 51)).alloc (.cells #[.int .i64 y0, .int .i64 y1, .int .i64 y2, .int .i64 y3, .int .i64 y4] 51)) (fun i _ => 5 - (intOf i).toNat)
  case atStart => exact ⟨0, w2, by omega, rfl, rfl, HB2, rfl⟩
  case round =>
    obtain ⟨k, w0, hk, rfl, hsz, hB, rfl⟩ := hrel
    have hk5 : k = 0 ∨ k = 1 ∨ k = 2 ∨ k = 3 ∨ k = 4 ∨ k = 5 := by omega
    rcases hk5 with rfl | rfl | rfl | rfl | rfl | rfl
    · simp only [mw]
      go_wp2
      go_region
      go_wp2
      refine ⟨⟨1, w0.drew, by omega, rfl, hsz, hB.out.drew, ?_⟩, by decide⟩
      rw [mn_eq2]
      rfl
    · simp only [mw]
      go_wp2
      go_region
      go_wp2
      refine ⟨⟨2, w0.drew, by omega, rfl, hsz, hB.out.drew, ?_⟩, by decide⟩
      rw [mn_eq2]
      rfl
    · simp only [mw]
      go_wp2
      go_region
      go_wp2
      refine ⟨⟨3, w0.drew, by omega, rfl, hsz, hB.out.drew, ?_⟩, by decide⟩
      rw [mn_eq2]
      rfl
    · simp only [mw]
      go_wp2
      go_region
      go_wp2
      refine ⟨⟨4, w0.drew, by omega, rfl, hsz, hB.out.drew, ?_⟩, by decide⟩
      rw [mn_eq2]
      rfl
    · simp only [mw]
      go_wp2
      go_region
      go_wp2
      refine ⟨⟨5, w0.drew, by omega, rfl, hsz, hB.out.drew, ?_⟩, by decide⟩
      rw [mn_eq2]
      rfl
    · simp only [mw]
      have hB' : Below w.heap.size w ((w0.alloc (.cells #[.int .i64 (min x0 y0), .int .i64 (min x1 y1), .int .i64 (min x2 y2), .int .i64 (min x3 y3), .int .i64 (min x4 y4)] 51)).alloc (.cells #[.int .i64 y0, .int .i64 y1, .int .i64 y2, .int .i64 y3, .int .i64 y4] 51)) := (hB.out.alloc hB.out.size _).alloc (by simp; have := hB.out.size; omega) _
      have HB' := hide hB'
      clear hB'
      go_wp2_with (go_at_call 38; refine (plain_any _ _ _ _ _ _).mono ?_; rintro e w3 ⟨v, rfl, hown, hb3⟩; have HO := hide hown; have HB3 := hide hb3; clear hown hb3)
      go_ret
      rw [← HE.out]
      exact ⟨_, rfl, HO.out.mono HB'.out.size, bel_next HB'.out HB3.out⟩
end Go.Proofs.Ytbeknlpoialgiaa
