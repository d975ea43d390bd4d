/- layer 11's awake, and what its statements say of ups and moves (over the program's contracts). -/
import Derived.Test.YtbihgcmnllajpaaGEp
namespace Go.Proofs.Ytbihgcmnllajpaa
open Go.RowKit Go.ChangeShapes Go.WideShapes
set_option linter.unusedVariables false
theorem Up11_good (a : Option Addr) (n cap : Nat) (s : List Ac) (t : ByteArray) (r : Nat) (hr : r < 5) (m : Int) (hm : -1000 ≤ m ∧ m ≤ 1000) (w : World) (hA : AC w a n s) (hC : CP a n cap) (h1 : mayA s = true) (hk : mayK t = true) (h3 : mayA (addA s t (r + 1) m) = true) : Calls Try.prog 9 #[.slice a n cap, .string t, .int .i64 ((r : Int) + 1), .int .i64 m] w fun e w' => ∃ p cp, e = .returned (.tuple #[.slice p (addA s t (r + 1) m).length cp, .int .i64 0]) ∧ AC w' p (addA s t (r + 1) m).length (addA s t (r + 1) m) ∧ CP p (addA s t (r + 1) m).length cp ∧ Below w.heap.size w w' := by
  refine (Up11_tells a n cap s t r hr m hm w hA hC h1 hk).mono ?_
  rintro e w' ⟨h, hb⟩
  rw [if_pos h3] at h
  obtain ⟨p, cp, q1, q2, q3⟩ := h
  exact ⟨p, cp, q1, q2, q3, hb⟩
theorem Up11_full (a : Option Addr) (n cap : Nat) (s : List Ac) (t : ByteArray) (r : Nat) (hr : r < 5) (m : Int) (hm : -1000 ≤ m ∧ m ≤ 1000) (w : World) (hA : AC w a n s) (hC : CP a n cap) (h1 : mayA s = true) (hk : mayK t = true) (h3 : mayA (addA s t (r + 1) m) = false) : Calls Try.prog 9 #[.slice a n cap, .string t, .int .i64 ((r : Int) + 1), .int .i64 m] w fun e w' => e = .returned (.tuple #[.slice none 0 0, .int .i64 6]) ∧ Below w.heap.size w w' := by
  refine (Up11_tells a n cap s t r hr m hm w hA hC h1 hk).mono ?_
  rintro e w' ⟨h, hb⟩
  rw [if_neg (by rw [h3]; simp)] at h
  exact ⟨h, hb⟩
theorem Move11_good (a : Option Addr) (n cap : Nat) (s : List Ac) (t : ByteArray) (r q : Nat) (hr : r < 5) (hq : q < 5) (m : Int) (hm : 1 ≤ m ∧ m ≤ 1000) (w : World) (hA : AC w a n s) (hC : CP a n cap) (h1 : mayA s = true) (hk : mayK t = true) (h3 : mayA (movA s t (r + 1) (q + 1) m) = true) : Calls Try.prog 10 #[.slice a n cap, .string t, .int .i64 ((r : Int) + 1), .int .i64 ((q : Int) + 1), .int .i64 m] w fun e w' => ∃ p cp, e = .returned (.tuple #[.slice p (movA s t (r + 1) (q + 1) m).length cp, .int .i64 0]) ∧ AC w' p (movA s t (r + 1) (q + 1) m).length (movA s t (r + 1) (q + 1) m) ∧ CP p (movA s t (r + 1) (q + 1) m).length cp ∧ Below w.heap.size w w' := by
  refine (Move11_tells a n cap s t r q hr hq m hm w hA hC h1 hk).mono ?_
  rintro e w' ⟨h, hb⟩
  rw [if_pos h3] at h
  obtain ⟨p, cp, q1, q2, q3⟩ := h
  exact ⟨p, cp, q1, q2, q3, hb⟩
theorem Move11_full (a : Option Addr) (n cap : Nat) (s : List Ac) (t : ByteArray) (r q : Nat) (hr : r < 5) (hq : q < 5) (m : Int) (hm : 1 ≤ m ∧ m ≤ 1000) (w : World) (hA : AC w a n s) (hC : CP a n cap) (h1 : mayA s = true) (hk : mayK t = true) (h3 : mayA (movA s t (r + 1) (q + 1) m) = false) : Calls Try.prog 10 #[.slice a n cap, .string t, .int .i64 ((r : Int) + 1), .int .i64 ((q : Int) + 1), .int .i64 m] w fun e w' => e = .returned (.tuple #[.slice none 0 0, .int .i64 6]) ∧ Below w.heap.size w w' := by
  refine (Move11_tells a n cap s t r q hr hq m hm w hA hC h1 hk).mono ?_
  rintro e w' ⟨h, hb⟩
  rw [if_neg (by rw [h3]; simp)] at h
  exact ⟨h, hb⟩
theorem okMov_iff {s : List Ac} {t : ByteArray} {r q m : Int} : okMov s t r q m = true ↔ mayA s = true ∧ mayK t = true ∧ okRep r = true ∧ okRep q = true ∧ (1 ≤ m ∧ m ≤ 1000) := by
  unfold okMov okMuch
  rw [Bool.and_eq_true, Bool.and_eq_true, Bool.and_eq_true, Bool.and_eq_true, decide_eq_true_iff (p := 1 ≤ m ∧ m ≤ 1000)]
  simp only [and_assoc]
theorem okUp_iff {s : List Ac} {t : ByteArray} {r m : Int} : okUp s t r m = true ↔ mayA s = true ∧ mayK t = true ∧ okRep r = true ∧ (-1000 ≤ m ∧ m ≤ 1000) := by
  unfold okUp
  rw [Bool.and_eq_true, Bool.and_eq_true, Bool.and_eq_true, decide_eq_true_iff (p := -1000 ≤ m ∧ m ≤ 1000)]
  simp only [and_assoc]
def kaE : ByteArray := ⟨#[97]⟩
set_option maxRecDepth 100000 in
set_option maxHeartbeats 2000000 in
theorem awake11 (w : World) : Calls Try.prog 8 #[] w fun e w' => e = .returned (.bool true) ∧ Below w.heap.size w w' := by
  have eA : addA [] kaE 2 3 = [(kaE, [0, 3, 0, 0, 0])] := by decide
  have hA : Calls Try.prog 9 #[.slice none 0 0, .string kaE, .int .i64 2, .int .i64 3] w fun e w' => ∃ p cp, e = .returned (.tuple #[.slice p (addA [] kaE 2 3).length cp, .int .i64 0]) ∧ AC w' p (addA [] kaE 2 3).length (addA [] kaE 2 3) ∧ CP p (addA [] kaE 2 3).length cp ∧ Below w.heap.size w w' := Up11_good none 0 0 [] kaE 1 (by omega) 3 (by omega) w (AC.nil _ _) ⟨Nat.le_refl _, by decide, fun _ => rfl⟩ (by decide) (by decide) (by decide)
  rw [eA] at hA
  have HA := hide hA
  have HN : Hid (num11 [(kaE, [0, 3, 0, 0, 0])] kaE = 3) := (by decide : num11 [(kaE, [0, 3, 0, 0, 0])] kaE = 3)
  have HR : Hid (rgt11 [(kaE, [0, 3, 0, 0, 0])] kaE 1 (-5) = 5) := (by decide : rgt11 [(kaE, [0, 3, 0, 0, 0])] kaE 1 (-5) = 5)
  have HM : Hid (may11 [(kaE, [0, 3, 0, 0, 0])] kaE 2 (-5) 4 = 5) := (by decide : may11 [(kaE, [0, 3, 0, 0, 0])] kaE 2 (-5) 4 = 5)
  have HY : Hid (may11 [(kaE, [0, 3, 0, 0, 0])] kaE 2 (-5) 3 = 0) := (by decide : may11 [(kaE, [0, 3, 0, 0, 0])] kaE 2 (-5) 3 = 0)
  clear eA hA
  generalize ([(kaE, [0, 3, 0, 0, 0])] : List Ac) = S at *
  generalize S.length = nS at *
  go_enter Try.func8, Try.ntmps8
  go_upto_region 2 with (go_at_call 9; refine HA.out.mono ?_; rintro e w1 ⟨p1, c1, rfl, hn1, hc1, hb⟩; have HN1 := hide hn1; have BB := hide hb; clear hn1 hc1 hb HA)
  go_wp2_with (first | (go_at_call 16; refine (Number11_any p1 _ c1 S kaE _ HN1.out).mono ?_; rintro e w3 ⟨rfl, hb⟩; rw [HN.out]; replace HN1 := hide (HN1.out.below hb); replace BB := hide (bel_next BB.out hb); clear hb) | (go_at_call 17; refine (Rights11_any p1 _ c1 S kaE 1 (-5) _ HN1.out).mono ?_; rintro e w3 ⟨rfl, hb⟩; rw [HR.out]; replace HN1 := hide (HN1.out.below hb); replace BB := hide (bel_next BB.out hb); clear hb) | (go_at_call 18; refine (May11_any p1 _ c1 S kaE 2 (-5) _ _ HN1.out).mono ?_; rintro e w3 ⟨rfl, hb⟩; (first | rw [HM.out] | rw [HY.out]); replace HN1 := hide (HN1.out.below hb); replace BB := hide (bel_next BB.out hb); clear hb))
  go_ret
  exact ⟨rfl, BB.out⟩
set_option maxHeartbeats 400000 in
theorem there11 (m : Int) (w : World) : Calls Try.prog 12 #[.int .i64 m] w fun e w' => e = .returned (.bool (okRep m)) ∧ w' = w := by
  obtain ⟨b, hb⟩ : ∃ b, okRep m = b := ⟨_, rfl⟩
  rw [hb]
  by_cases h1 : 1 ≤ m
  · by_cases h2 : m ≤ 5
    · have HR : Hid (b = true) := by unfold Hid; rw [← hb]; exact decide_eq_true ⟨h1, h2⟩
      clear hb
      go_enter Try.func12, Try.ntmps12
      go_wp2
      go_ret
      exact ⟨by rw [HR.out]; first | rfl | (simp; omega), rfl⟩
    · have HR : Hid (b = false) := by unfold Hid; rw [← hb]; exact decide_eq_false (by omega)
      clear hb
      go_enter Try.func12, Try.ntmps12
      go_wp2
      go_ret
      exact ⟨by rw [HR.out]; first | rfl | (simp; omega), rfl⟩
  · have HR : Hid (b = false) := by unfold Hid; rw [← hb]; exact decide_eq_false (by omega)
    clear hb
    go_enter Try.func12, Try.ntmps12
    go_wp2
    go_ret
    exact ⟨by rw [HR.out]; first | rfl | (simp; omega), rfl⟩
end Go.Proofs.Ytbihgcmnllajpaa
