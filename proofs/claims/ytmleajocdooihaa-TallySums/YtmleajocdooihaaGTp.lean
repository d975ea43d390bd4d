/- What the program's exported functions of layer 10 tell. -/
import Derived.Test.YtmleajocdooihaaGTd
namespace Go.Proofs.Ytmleajocdooihaa
open Go.RowKit Go.Lib
set_option linter.unusedVariables false
theorem okT_parts (t : ByteArray) (m : Int) : okT (t, m) = (mayK t && amtB m) := rfl
theorem okT_iff {t : ByteArray} {m : Int} : okT (t, m) = true ↔ mayK t = true ∧ -1000 ≤ m ∧ m ≤ 1000 := by simp [okT]
theorem raised_any (a : Option Addr) (n cap : Nat) (s : List Ce) (t : ByteArray) (m : Int) (w : World) (hA : TS w a n s) (hC : CP a n cap) (h1 : mayT s = true) (hm1 : -1000 ≤ m) (hm2 : m ≤ 1000) :
    Calls Try.prog 19 #[.slice a n cap, .string t, .int .i64 m] w fun e w' => ∃ v, e = .returned v ∧ OwnR encC 2 36 w.heap.size w' v (addT s t m) ∧ Below w.heap.size w w' := by
  have hl := hA.1
  have h4 := (mayG_iff.1 h1).2.2
  rcases Nat.eq_zero_or_pos n with h0 | hp
  · subst h0
    obtain rfl : s = [] := List.eq_nil_of_length_eq_zero hl
    rcases a with _ | ⟨b, off, fz⟩
    · obtain rfl := hC.2.2 rfl
      exact raised_none t m w
    · exact raised_zero b off cap fz t m w hC.2.1
  · obtain ⟨b, off, rfl⟩ := hA.addr hp
    exact raised_some b off n cap s t m w hA hC.1 hC.2.1 h1 hm1 hm2 (by omega)
set_option maxHeartbeats 1000000 in
theorem Get10_any (a : Option Addr) (n cap : Nat) (s : List Ce) (t : ByteArray) (w : World) (hA : TS w a n s) : Calls Try.prog 11 #[.slice a n cap, .string t] w fun e w' => e = .returned (.int .i64 (get10 s t)) ∧ Below w.heap.size w w' := by
  have HM := hide (Check10_any a n cap s w hA)
  have HV := hide hA
  have HLEN := hide hA.1
  clear hA
  rcases hm : mayT s with _ | _
  · have HC : Hid (get10 s t = 0) := by unfold Hid get10; rw [hm]; rfl
    have HCK := hide (chkT_no hm)
    clear hm
    go_enter Try.func11, Try.ntmps11
    go_wp2_with (go_at_call 9; refine HM.out.mono ?_; rintro e w1 ⟨rfl, hb⟩; rw [HCK.out]; have HB := hide hb; clear hb)
    go_ret
    exact ⟨by rw [HC.out]; rfl, HB.out⟩
  · have HC : Hid (get10 s t = numT s t) := by unfold Hid get10; rw [if_pos hm]
    have HCK := hide (chkT_yes hm)
    have hS := (mayG_iff.1 hm).2.1
    have h4 := (mayG_iff.1 hm).2.2
    rw [HLEN.out] at h4
    have HS0 := hide hS
    have HPL := hide (fun W (g : TS W a n s) => placeT_any a n cap s t W g hS h4)
    clear hm hS
    go_enter Try.func11, Try.ntmps11
    go_upto_region 4 with (first | (go_at_call 9; refine HM.out.mono ?_; rintro e w1 ⟨rfl, hb⟩; rw [HCK.out]; have HB := hide hb; clear hb) | (go_at_call 21; refine (HPL.out _ (HV.out.below HB.out)).mono ?_; rintro e w2 ⟨⟨i, rfl, hp⟩, hb⟩))
    have HP := hide hp
    replace HB := hide (bel_next HB.out hb)
    clear hp hb HPL
    rcases ht : thereG kC s t i with _ | _
    · have HG : Hid (numT s t = 0) := by unfold Hid numT; rw [(placeG_not HS0.out HP.out (thereG_no ht) none).1]
      go_wp2
      go_ret
      exact ⟨by rw [HC.out, HG.out]; rfl, HB.out⟩
    · obtain ⟨x, hx, he⟩ := thereG_yes ht
      have HG : Hid (numT s t = x.2) := by unfold Hid numT; rw [(placeG_there HS0.out HP.out hx he none).1]
      have hin : i < n := by rw [← HLEN.out]; exact (List.getElem?_eq_some_iff.1 hx).1
      obtain ⟨b, off, rfl⟩ := HV.out.addr (by omega)
      obtain ⟨k, z, hx', c0, c1⟩ := (HV.out.below HB.out).at i hin
      rw [hx] at hx'
      cases hx'
      have hi0 : (0 : Int) ≤ (i : Int) := by omega
      have hi1 : (i : Int) < (n : Int) := by omega
      clear hx he
      go_wp2
      go_ret
      exact ⟨by rw [HC.out, HG.out]; rfl, HB.out⟩
set_option maxHeartbeats 1000000 in
theorem Add10_bad (a : Option Addr) (n cap : Nat) (s : List Ce) (t : ByteArray) (m : Int) (w : World) (hA : TS w a n s) (hno : (mayT s && okT (t, m)) = false) : Calls Try.prog 8 #[.slice a n cap, .string t, .int .i64 m] w fun e w' => e = .returned (.tuple #[.slice none 0 0, .int .i64 1]) ∧ Below w.heap.size w w' := by
  have HM := hide (Check10_any a n cap s w hA)
  clear hA
  rcases hm : mayT s with _ | _
  · have HCK := hide (chkT_no hm)
    clear hm hno
    go_enter Try.func8, Try.ntmps8
    go_wp2_with (first | (go_at_call 9; refine HM.out.mono ?_; rintro e w1 ⟨rfl, hb⟩; rw [HCK.out]; have HB := hide hb; clear hb))
    go_ret2
    exact ⟨rfl, HB.out⟩
  · rw [hm, Bool.true_and, okT_parts] at hno
    have HCK := hide (chkT_yes hm)
    clear hm
    rcases hk : mayK t with _ | _
    · have HKY := hide hk
      clear hk hno
      go_enter Try.func8, Try.ntmps8
      go_wp2_with (first | (go_at_call 9; refine HM.out.mono ?_; rintro e w1 ⟨rfl, hb⟩; rw [HCK.out]; have HB := hide hb; clear hb) | (go_at_call 17; refine (key10_any t _).mono ?_; rintro e w2 ⟨rfl, hb⟩; rw [HKY.out]; replace HB := hide (bel_next HB.out hb); clear hb))
      go_ret2
      exact ⟨rfl, HB.out⟩
    · rw [hk, Bool.true_and] at hno
      have HKY := hide hk
      have HAM := hide hno
      clear hk hno
      go_enter Try.func8, Try.ntmps8
      go_wp2_with (first | (go_at_call 9; refine HM.out.mono ?_; rintro e w1 ⟨rfl, hb⟩; rw [HCK.out]; have HB := hide hb; clear hb) | (go_at_call 17; refine (key10_any t _).mono ?_; rintro e w2 ⟨rfl, hb⟩; rw [HKY.out]; replace HB := hide (bel_next HB.out hb); clear hb) | (go_at_call 18; refine (amt10_any m _).mono ?_; rintro e w3 ⟨rfl, hb⟩; rw [HAM.out]; replace HB := hide (bel_next HB.out hb); clear hb))
      go_ret2
      exact ⟨rfl, HB.out⟩
set_option maxHeartbeats 2000000 in
theorem Add10_tells (a : Option Addr) (n cap : Nat) (s : List Ce) (t : ByteArray) (m : Int) (w : World) (hA : TS w a n s) (h1 : mayT s = true) (h2 : okT (t, m) = true) (hC : CP a n cap) : Calls Try.prog 8 #[.slice a n cap, .string t, .int .i64 m] w fun e w' => (if mayT (addT s t m) = true then ∃ p cp, e = .returned (.tuple #[.slice p (addT s t m).length cp, .int .i64 0]) ∧ TS w' p (addT s t m).length (addT s t m) ∧ CP p (addT s t m).length cp else e = .returned (.tuple #[.slice none 0 0, .int .i64 6])) ∧ Below w.heap.size w w' := by
  have HM := hide (Check10_any a n cap s w hA)
  have HCK := hide (chkT_yes h1)
  have HV := hide hA
  obtain ⟨k1, m2, m1⟩ := okT_iff.1 h2
  have HKY := hide k1
  have HAM : Hid (amtB m = true) := decide_eq_true ⟨m2, m1⟩
  have HRA : Hid (∀ W, TS W a n s → Calls Try.prog 19 #[.slice a n cap, .string t, .int .i64 m] W fun e w' => ∃ p c, e = .returned (.slice p (addT s t m).length c) ∧ TS w' p (addT s t m).length (addT s t m) ∧ CP p (addT s t m).length c ∧ Below W.heap.size W w') := fun W g => by
    refine (raised_any a n cap s t m W g hC h1 m2 m1).mono ?_
    rintro e w' ⟨v, rfl, ho, hb⟩
    obtain ⟨p, c, rfl, q1, q2⟩ := ho.open encC_len
    exact ⟨p, c, rfl, q1, q2, hb⟩
  clear hA h1 h2 k1 m1 m2 hC
  generalize addT s t m = A at *
  have HCA := hide (fun p c W (g : TS W p A.length A) => Check10_any p A.length c A W g)
  generalize A.length = nA at *
  rcases hma : mayT A with _ | _
  · have HE := hide (chkT_no hma)
    have HNO : Hid (¬ (mayT A = true)) := by unfold Hid; simp [hma]
    clear hma
    go_enter Try.func8, Try.ntmps8
    go_upto_region 4 with (first | (go_at_call 9; refine HM.out.mono ?_; rintro e w1 ⟨rfl, hb⟩; rw [HCK.out]; have HB := hide hb; clear hb) | (go_at_call 17; refine (key10_any t _).mono ?_; rintro e w2 ⟨rfl, hb⟩; rw [HKY.out]; replace HB := hide (bel_next HB.out hb); clear hb) | (go_at_call 18; refine (amt10_any m _).mono ?_; rintro e w3 ⟨rfl, hb⟩; rw [HAM.out]; replace HB := hide (bel_next HB.out hb); clear hb) | (go_at_call 19; refine (HRA.out _ (HV.out.below HB.out)).mono ?_; rintro e w4 ⟨p3, c3, rfl, hn3, hc3, hb⟩; have HN3 := hide hn3; have HC3 := hide hc3; replace HB := hide (bel_next HB.out hb); clear hn3 hc3 hb))
    go_wp2_with (go_at_call 9; refine (HCA.out p3 c3 _ HN3.out).mono ?_; rintro e w5 ⟨rfl, hb⟩; rw [HE.out]; replace HB := hide (bel_next HB.out hb); clear hb)
    go_ret2
    exact ⟨rfl, HB.out⟩
  · have HE := hide (chkT_yes hma)
    clear hma
    go_enter Try.func8, Try.ntmps8
    go_upto_region 4 with (first | (go_at_call 9; refine HM.out.mono ?_; rintro e w1 ⟨rfl, hb⟩; rw [HCK.out]; have HB := hide hb; clear hb) | (go_at_call 17; refine (key10_any t _).mono ?_; rintro e w2 ⟨rfl, hb⟩; rw [HKY.out]; replace HB := hide (bel_next HB.out hb); clear hb) | (go_at_call 18; refine (amt10_any m _).mono ?_; rintro e w3 ⟨rfl, hb⟩; rw [HAM.out]; replace HB := hide (bel_next HB.out hb); clear hb) | (go_at_call 19; refine (HRA.out _ (HV.out.below HB.out)).mono ?_; rintro e w4 ⟨p3, c3, rfl, hn3, hc3, hb⟩; have HN3 := hide hn3; have HC3 := hide hc3; replace HB := hide (bel_next HB.out hb); clear hn3 hc3 hb))
    go_wp2_with (go_at_call 9; refine (HCA.out p3 c3 _ HN3.out).mono ?_; rintro e w5 ⟨rfl, hb⟩; rw [HE.out]; replace HN3 := hide (HN3.out.below hb); replace HB := hide (bel_next HB.out hb); clear hb)
    go_ret2
    exact ⟨⟨p3, c3, rfl, HN3.out, HC3.out⟩, HB.out⟩
set_option maxHeartbeats 1000000 in
theorem Same10_any (a : Option Addr) (n cap : Nat) (s : List Ce) (a' : Option Addr) (n' cap' : Nat) (s' : List Ce) (w : World) (hA : TS w a n s) (hA' : TS w a' n' s') : Calls Try.prog 16 #[.slice a n cap, .slice a' n' cap'] w fun e w' => e = .returned (.bool (decide (s = s'))) ∧ Below w.heap.size w w' := by
  have HM := hide (equalT_any a n cap s a' n' cap' s' w hA hA')
  clear hA hA'
  go_enter Try.func16, Try.ntmps16
  go_wp2_with (go_at_call 23; refine HM.out.mono ?_; rintro e w1 ⟨rfl, hb⟩)
  go_ret
  exact ⟨rfl, hb⟩
set_option maxHeartbeats 1000000 in
theorem All10_any (a : Option Addr) (n cap : Nat) (s : List Ce) (w : World) (hA : TS w a n s) (hcp : CP a n cap) (hn : n ≤ 100000) : Calls Try.prog 12 #[.slice a n cap] w fun e w' => ∃ p cp, e = .returned (.slice p (all10 s).length cp) ∧ TS w' p (all10 s).length (all10 s) ∧ CP p (all10 s).length cp ∧ Below w.heap.size w w' := by
  have HM := hide (Check10_any a n cap s w hA)
  have HV := hide hA
  clear hA hcp
  rcases hm : mayT s with _ | _
  · have HC : Hid (all10 s = []) := by unfold Hid all10; rw [hm]; rfl
    have HCK := hide (chkT_no hm)
    clear hm
    rw [HC.out]
    go_enter Try.func12, Try.ntmps12
    go_wp2_with (go_at_call 9; refine HM.out.mono ?_; rintro e w1 ⟨rfl, hb⟩; rw [HCK.out]; have HB := hide hb; clear hb)
    go_ret
    exact ⟨none, 0, rfl, TS.nil _ _, ⟨Nat.le_refl _, by decide, fun _ => rfl⟩, HB.out⟩
  · have HC : Hid (all10 s = s) := by unfold Hid all10; rw [if_pos hm]
    have HCK := hide (chkT_yes hm)
    have HCL := hide (fun W (g : TS W a n s) => cloneT_any a n cap s W g hn)
    clear hm
    rw [HC.out]
    go_enter Try.func12, Try.ntmps12
    go_wp2_with (first | (go_at_call 9; refine HM.out.mono ?_; rintro e w1 ⟨rfl, hb⟩; rw [HCK.out]; have HB := hide hb; clear hb) | (go_at_call 22; refine (HCL.out _ (HV.out.below HB.out)).mono ?_; rintro e w2 ⟨v, rfl, ho, hb⟩; obtain ⟨p3, c3, rfl, hn3, hc3⟩ := ho.open encC_len; have HN3 := hide hn3; have HC3 := hide hc3; replace HB := hide (bel_next HB.out hb); clear ho hn3 hc3 hb))
    go_ret
    exact ⟨p3, c3, rfl, HN3.out, HC3.out, HB.out⟩
end Go.Proofs.Ytmleajocdooihaa
