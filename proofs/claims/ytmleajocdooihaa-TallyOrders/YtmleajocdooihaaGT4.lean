/- layer 10's awake, and what its statements say of adds (over the program's contracts: Check10_any, Add10_bad, Add10_tells, Get10_any, All10_any, Same10_any). -/
import Derived.Test.YtmleajocdooihaaGTp
namespace Go.Proofs.Ytmleajocdooihaa
open Go.RowKit Go.ChangeShapes Go.WideShapes
set_option linter.unusedVariables false
theorem Add10_good (a : Option Addr) (n cap : Nat) (s : List Ce) (t : ByteArray) (m : Int) (w : World) (hA : TS w a n s) (h1 : mayT s = true) (h2 : okT (t, m) = true) (h3 : mayT (addT s t m) = true) (hC : CP a n cap) : Calls Try.prog 8 #[.slice a n cap, .string t, .int .i64 m] w fun e w' => ∃ p cp, e = .returned (.tuple #[.slice p (addT s t m).length cp, .int .i64 0]) ∧ TS w' p (addT s t m).length (addT s t m) ∧ CP p (addT s t m).length cp ∧ Below w.heap.size w w' := by
  refine (Add10_tells a n cap s t m w hA h1 h2 hC).mono ?_
  rintro e w' ⟨h, hb⟩
  rw [if_pos h3] at h
  obtain ⟨p, cp, q1, q2, q3⟩ := h
  exact ⟨p, cp, q1, q2, q3, hb⟩
theorem Add10_full (a : Option Addr) (n cap : Nat) (s : List Ce) (t : ByteArray) (m : Int) (w : World) (hA : TS w a n s) (h1 : mayT s = true) (h2 : okT (t, m) = true) (h3 : mayT (addT s t m) = false) (hC : CP a n cap) : Calls Try.prog 8 #[.slice a n cap, .string t, .int .i64 m] w fun e w' => e = .returned (.tuple #[.slice none 0 0, .int .i64 6]) ∧ Below w.heap.size w w' := by
  refine (Add10_tells a n cap s t m w hA h1 h2 hC).mono ?_
  rintro e w' ⟨h, hb⟩
  rw [if_neg (by rw [h3]; simp)] at h
  exact ⟨h, hb⟩
def ka : ByteArray := ⟨#[97]⟩
set_option maxRecDepth 100000 in
set_option maxHeartbeats 2000000 in
theorem awake10 (w : World) : Calls Try.prog 7 #[] w fun e w' => e = .returned (.bool true) ∧ Below w.heap.size w w' := by
  have eA : addT [] ka 3 = [(ka, 3)] := by simp [addT, setT, putG, numT, getG, celT]
  have eB : addT [(ka, 3)] ka (-3) = [] := by simp [addT, setT, putG, numT, getG, celT, ltK_irr]
  have hA := Add10_good none 0 0 [] ka 3 w (TS.nil _ _) (by decide) (by decide) (by rw [eA]; decide) ⟨Nat.le_refl _, by decide, fun _ => rfl⟩
  rw [eA] at hA
  have HA := hide hA
  have HB : Hid (∀ (p : Option Addr) (n cap : Nat) (W : World), TS W p n [(ka, 3)] → CP p n cap → Calls Try.prog 8 #[.slice p n cap, .string ka, .int .i64 (-3)] W fun e w' => ∃ p cp, e = .returned (.tuple #[.slice p 0 cp, .int .i64 0]) ∧ TS w' p 0 [] ∧ CP p 0 cp ∧ Below W.heap.size W w') := fun p n cap W h hC => by
    have := Add10_good p n cap [(ka, 3)] ka (-3) W h (by decide) (by decide) (by rw [eB]; decide) hC
    rw [eB] at this
    exact this
  have HG : Hid (get10 [(ka, 3)] ka = 3) := (by decide : get10 [(ka, 3)] ka = 3)
  clear eA eB hA
  go_enter Try.func7, Try.ntmps7
  go_upto_region 2 with (go_at_call 8; refine HA.out.mono ?_; rintro e w1 ⟨p1, c1, rfl, hn1, hc1, hb⟩; have HN1 := hide hn1; have HC1 := hide hc1; have BB := hide hb; clear hn1 hc1 hb HA)
  go_upto_region 3 with (go_at_call 8; refine (HB.out p1 _ c1 _ HN1.out HC1.out).mono ?_; rintro e w2 ⟨p2, c2, rfl, hn2, hc2, hb⟩; replace HN1 := hide (HN1.out.below hb); replace BB := hide (bel_next BB.out hb); clear hn2 hc2 hb HB)
  go_wp2_with (go_at_call 11; refine (Get10_any p1 _ c1 [(ka, 3)] ka _ HN1.out).mono ?_; rintro e w3 ⟨rfl, hb⟩; rw [HG.out])
  go_ret
  exact ⟨rfl, bel_next BB.out hb⟩
end Go.Proofs.Ytmleajocdooihaa
