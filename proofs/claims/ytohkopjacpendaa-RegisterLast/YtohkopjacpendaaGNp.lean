/- What the program's exported functions of layer 12 tell. -/
import Derived.Test.YtohkopjacpendaaGNc
namespace Go.Proofs.Ytohkopjacpendaa
open Go.RowKit Go.Lib
set_option linter.unusedVariables false
/-- What 'Get' tells. -/
def get12 (s : List Nt) (t : ByteArray) : Option Nt := if mayR12 s = true then getG kN s t else none
theorem get12_no {s : List Nt} (h : mayR12 s = false) (t : ByteArray) : get12 s t = none := by unfold get12; rw [h]; rfl
theorem get12_yes {s : List Nt} (h : mayR12 s = true) (t : ByteArray) : get12 s t = getG kN s t := by unfold get12; rw [if_pos h]
theorem may_one (x : Nt) : mayR12 [x] = mayNt x := by
  rw [Bool.eq_iff_iff, mayG_iff]
  exact ⟨fun h => h.1 x (by simp), fun h => ⟨fun y hy => by simp at hy; subst hy; exact h, by simp [SrtG], by simp⟩⟩
set_option maxHeartbeats 1000000 in
theorem Join12_bad (a : Option Addr) (n cpa : Nat) (s : List Nt) (b : Option Addr) (m cpb : Nat) (t : List Nt) (w : World) (hA : NN w a n s) (hB : NN w b m t) (hno : (mayR12 s && mayR12 t) = false) : Calls Try.prog 17 #[.slice a n cpa, .slice b m cpb] w fun e w' => e = .returned (.tuple #[.slice none 0 0, .int .i64 1]) ∧ Below w.heap.size w w' := by
  have HM1 := hide (Check12_any a n cpa s w hA)
  have HM2 := hide (fun W (g : NN W b m t) => Check12_any b m cpb t W g)
  have HV1 := hide hA
  have HV2 := hide hB
  clear hA hB
  rcases h1 : mayR12 s with _ | _
  · have HC1 := hide (chkN_no h1)
    clear h1 hno
    go_enter Try.func17, Try.ntmps17
    go_wp2_with (go_at_call 11; refine HM1.out.mono ?_; rintro e w1 ⟨rfl, hb⟩; rw [HC1.out]; have HB := hide hb; clear hb)
    go_ret2
    exact ⟨rfl, HB.out⟩
  · rcases h2 : mayR12 t with _ | _
    · have HC1 := hide (chkN_yes h1)
      have HC2 := hide (chkN_no h2)
      clear h1 h2 hno
      go_enter Try.func17, Try.ntmps17
      go_upto_region 2 with (first | (go_at_call 11; first | (refine HM1.out.mono ?_; rintro e w1 ⟨rfl, hb⟩; rw [HC1.out]; have HB := hide hb; clear hb HM1) | (refine (HM2.out _ (HV2.out.below HB.out)).mono ?_; rintro e w2 ⟨rfl, hb⟩; rw [HC2.out]; replace HB := hide (bel_next HB.out hb); clear hb)))
      go_wp2
      go_ret2
      exact ⟨rfl, HB.out⟩
    · rw [h1, h2] at hno
      cases hno
set_option maxHeartbeats 2000000 in
theorem Join12_good (a : Option Addr) (n cpa : Nat) (s : List Nt) (b : Option Addr) (m cpb : Nat) (t : List Nt) (w : World) (hA : NN w a n s) (hB : NN w b m t) (hCA : CP a n cpa) (hCB : CP b m cpb) (h1 : mayR12 s = true) (h2 : mayR12 t = true) (hl : (mrgN s t).length ≤ 4000) : Calls Try.prog 17 #[.slice a n cpa, .slice b m cpb] w fun e w' => ∃ p cp, e = .returned (.tuple #[.slice p (mrgN s t).length cp, .int .i64 0]) ∧ NN w' p (mrgN s t).length (mrgN s t) ∧ CP p (mrgN s t).length cp ∧ Below w.heap.size w w' := by
  have HM1 := hide (Check12_any a n cpa s w hA)
  have HM2 := hide (fun W (g : NN W b m t) => Check12_any b m cpb t W g)
  have HV1 := hide hA
  have HV2 := hide hB
  have hn : n ≤ 4000 := by have := (mayG_iff.1 h1).2.2; rw [hA.1] at this; exact this
  have hm : m ≤ 4000 := by have := (mayG_iff.1 h2).2.2; rw [hB.1] at this; exact this
  have HMG : Hid (∀ W, NN W a n s → NN W b m t → Calls Try.prog 25 #[.slice a n cpa, .slice b m cpb] W fun e w' => ∃ p cp, e = .returned (.slice p (mrgN s t).length cp) ∧ NN w' p (mrgN s t).length (mrgN s t) ∧ CP p (mrgN s t).length cp ∧ Below W.heap.size W w') := fun W g1 g2 => by
    refine (merged_any a n cpa s b m cpb t W g1 hCA g2 hCB hn hm).mono ?_
    rintro e w' ⟨v, rfl, ho, hb⟩
    obtain ⟨p, c, rfl, q1, q2⟩ := ho.open encN_len
    exact ⟨p, c, rfl, q1, q2, hb⟩
  have HC1 := hide (chkN_yes h1)
  have HC2 := hide (chkN_yes h2)
  generalize mrgN s t = R at *
  have hl2 : ¬ ((4000 : Int) < (R.length : Int)) := by omega
  generalize R.length = nR at *
  clear hA hB h1 h2 hCA hCB hn hm
  go_enter Try.func17, Try.ntmps17
  go_upto_region 3 with (go_at_call 11; first | (refine HM1.out.mono ?_; rintro e w1 ⟨rfl, hb⟩; rw [HC1.out]; have HB := hide hb; clear hb HM1) | (refine (HM2.out _ (HV2.out.below HB.out)).mono ?_; rintro e w2 ⟨rfl, hb⟩; rw [HC2.out]; replace HB := hide (bel_next HB.out hb); clear hb))
  go_wp2_with (go_at_call 25; refine (HMG.out _ (HV1.out.below HB.out) (HV2.out.below HB.out)).mono ?_; rintro e w3 ⟨p3, c3, rfl, hn3, hc3, hb⟩; have HN3 := hide hn3; have HC3 := hide hc3; replace HB := hide (bel_next HB.out hb); clear hn3 hc3 hb)
  go_ret2
  exact ⟨p3, c3, rfl, HN3.out, HC3.out, HB.out⟩
theorem setW (k : ByteArray) (ta rp : Int) (wd : ByteArray) (w : World) : NN ((w.alloc (.cells #[.string k, .int .i64 ta, .int .i64 rp, .string wd] 24)).alloc (.cells #[.string k, .int .i64 ta, .int .i64 rp, .string wd] 24)) (some ⟨w.heap.size + 1, 0, none⟩) 1 [(k, ta, rp, wd)] ∧ CP (some ⟨w.heap.size + 1, 0, none⟩) 1 1 ∧ Below w.heap.size w ((w.alloc (.cells #[.string k, .int .i64 ta, .int .i64 rp, .string wd] 24)).alloc (.cells #[.string k, .int .i64 ta, .int .i64 rp, .string wd] 24)) :=
  ⟨RS.new encN_len (w.alloc (.cells #[.string k, .int .i64 ta, .int .i64 rp, .string wd] 24)) _ (by simp) [(k, ta, rp, wd)] _ (by simp [encN]) _ _ 1 rfl (by decide), ⟨Nat.le_refl _, by decide, fun h => by cases h⟩, bel2 _ _ _⟩
set_option maxHeartbeats 1000000 in
theorem Set12_bad (a : Option Addr) (n cap : Nat) (s : List Nt) (k : ByteArray) (ta rp : Int) (wd : ByteArray) (w : World) (hA : NN w a n s) (hno : (mayR12 s && mayNt (k, ta, rp, wd)) = false) : Calls Try.prog 9 #[.slice a n cap, .agg #[.string k, .int .i64 ta, .int .i64 rp, .string wd]] w fun e w' => e = .returned (.tuple #[.slice none 0 0, .int .i64 1]) ∧ Below w.heap.size w w' := by
  obtain ⟨g1, g2, g3⟩ := setW k ta rp wd w
  have HB0 := hide g3
  have HJ := hide (Join12_bad a n cap s _ 1 1 [(k, ta, rp, wd)] _ (hA.below g3) g1 (by rw [may_one]; exact hno))
  clear hA hno g1 g2 g3
  go_enter Try.func9, Try.ntmps9
  go_wp2_with (go_at_call 17; refine HJ.out.mono ?_; rintro e w1 ⟨rfl, hb⟩; replace HB0 := hide (bel_next HB0.out hb); clear hb)
  go_ret2
  exact ⟨rfl, HB0.out⟩
set_option maxHeartbeats 1000000 in
theorem Set12_good (a : Option Addr) (n cap : Nat) (s : List Nt) (k : ByteArray) (ta rp : Int) (wd : ByteArray) (w : World) (hA : NN w a n s) (hC : CP a n cap) (h1 : mayR12 s = true) (h2 : mayNt (k, ta, rp, wd) = true) (hl : s.length < 4000) : Calls Try.prog 9 #[.slice a n cap, .agg #[.string k, .int .i64 ta, .int .i64 rp, .string wd]] w fun e w' => ∃ p cp, e = .returned (.tuple #[.slice p (setN s (k, ta, rp, wd)).length cp, .int .i64 0]) ∧ NN w' p (setN s (k, ta, rp, wd)).length (setN s (k, ta, rp, wd)) ∧ CP p (setN s (k, ta, rp, wd)).length cp ∧ Below w.heap.size w w' := by
  obtain ⟨g1, g2, g3⟩ := setW k ta rp wd w
  have HB0 := hide g3
  have e1 := mrgN_one (mayG_iff.1 h1).2.1 (k, ta, rp, wd)
  have hJ := Join12_good a n cap s _ 1 1 [(k, ta, rp, wd)] _ (hA.below g3) g1 hC g2 h1 (by rw [may_one]; exact h2) (by rw [e1]; have := setN_len s (k, ta, rp, wd); omega)
  rw [e1] at hJ
  have HJ := hide hJ
  clear hA hC g1 g2 g3 hJ e1 h1 h2 hl
  generalize setN s (k, ta, rp, wd) = R at *
  generalize R.length = nR at *
  go_enter Try.func9, Try.ntmps9
  go_wp2_with (go_at_call 17; refine HJ.out.mono ?_; rintro e w1 ⟨p3, c3, rfl, hn3, hc3, hb⟩; have HN3 := hide hn3; have HC3 := hide hc3; replace HB0 := hide (bel_next HB0.out hb); clear hn3 hc3 hb)
  go_ret2
  exact ⟨p3, c3, rfl, HN3.out, HC3.out, HB0.out⟩
set_option maxHeartbeats 2000000 in
theorem Get12_any (a : Option Addr) (n cap : Nat) (s : List Nt) (t : ByteArray) (w : World) (hA : NN w a n s) : Calls Try.prog 10 #[.slice a n cap, .string t] w fun e w' => e = .returned (.tuple #[vNt (get12 s t), .bool (get12 s t).isSome]) ∧ Below w.heap.size w w' := by
  have HM := hide (fun W (g : NN W a n s) => Check12_any a n cap s W g)
  have HV := hide hA
  have HLEN := hide hA.1
  have HB := hide (bel1 w (.cells #[.string ⟨#[]⟩, .int .i64 0, .int .i64 0, .string ⟨#[]⟩] 24))
  have HX0 := hide (BX.new w _ rfl #[.string ⟨#[]⟩, .int .i64 0, .int .i64 0, .string ⟨#[]⟩] 24)
  clear hA
  rcases hm : mayR12 s with _ | _
  · have HG : Hid (get12 s t = none) := get12_no hm t
    have HCK := hide (chkN_no hm)
    clear hm
    go_enter Try.func10, Try.ntmps10
    go_upto_region 2 with (go_at_call 11; refine (HM.out _ (HV.out.below HB.out)).mono ?_; rintro e w1 ⟨rfl, hb⟩; rw [HCK.out]; replace HB := hide (bel_next HB.out hb); replace HX0 := hide (HX0.out.below hb); clear hb)
    have e0 := HX0.out.cell 0 _ rfl
    have e1 := HX0.out.cell 1 _ rfl
    have e2 := HX0.out.cell 2 _ rfl
    have e3 := HX0.out.cell 3 _ rfl
    have z0 := HX0.out.free 0
    have z1 := HX0.out.free 1
    have z2 := HX0.out.free 2
    have z3 := HX0.out.free 3
    go_wp2
    refine bodyPost_ret (results_cell_tmp rfl _ _ _ _ _ _ _ _ rfl rfl (HX0.out.put4 _ _ _ _) Try.underlying24 rfl (by kernel_rfl)) rfl ?_
    exact ⟨by rw [HG.out]; rfl, bel_put4N HB.out (Nat.le_refl _) _ _ _ _⟩
  · have HC : Hid (get12 s t = getG kN s t) := get12_yes hm t
    have HCK := hide (chkN_yes hm)
    have hS := (mayG_iff.1 hm).2.1
    have h4 := (mayG_iff.1 hm).2.2
    rw [HLEN.out] at h4
    have HS0 := hide hS
    have HPL := hide (fun W (g : NN W a n s) => searchN_any a n cap s t W g hS h4)
    clear hm hS
    go_enter Try.func10, Try.ntmps10
    go_upto_region 3 with (go_at_call 11; refine (HM.out _ (HV.out.below HB.out)).mono ?_; rintro e w1 ⟨rfl, hb⟩; rw [HCK.out]; replace HB := hide (bel_next HB.out hb); replace HX0 := hide (HX0.out.below hb); clear hb)
    go_upto_region 4 with (go_at_call 21; refine (HPL.out _ (HV.out.below HB.out)).mono ?_; rintro e w2 ⟨⟨i, rfl, hp⟩, hb⟩; have HP := hide hp; replace HB := hide (bel_next HB.out hb); replace HX0 := hide (HX0.out.below hb); clear hp hb HPL)
    rcases ht : thereG kN s t i with _ | _
    · have HG : Hid (get12 s t = none) := by unfold Hid; rw [HC.out, (placeG_not HS0.out HP.out (thereG_no ht) none).1]
      have e0 := HX0.out.cell 0 _ rfl
      have e1 := HX0.out.cell 1 _ rfl
      have e2 := HX0.out.cell 2 _ rfl
      have e3 := HX0.out.cell 3 _ rfl
      have z0 := HX0.out.free 0
      have z1 := HX0.out.free 1
      have z2 := HX0.out.free 2
      have z3 := HX0.out.free 3
      go_wp2
      refine bodyPost_ret (results_cell_tmp rfl _ _ _ _ _ _ _ _ rfl rfl (HX0.out.put4 _ _ _ _) Try.underlying24 rfl (by kernel_rfl)) rfl ?_
      exact ⟨by rw [HG.out]; rfl, bel_put4N HB.out (Nat.le_refl _) _ _ _ _⟩
    · obtain ⟨x, hx, he⟩ := thereG_yes ht
      have HG : Hid (get12 s t = some x) := by unfold Hid; rw [HC.out, (placeG_there HS0.out HP.out hx he none).1]
      have hin : i < n := by rw [← HLEN.out]; exact (List.getElem?_eq_some_iff.1 hx).1
      obtain ⟨b, off, rfl⟩ := HV.out.addr (by omega)
      obtain ⟨k, ta, rp, wd, hx', c0, c1, c2, c3⟩ := (HV.out.below HB.out).at i hin
      rw [hx] at hx'
      cases hx'
      have hi0 : (0 : Int) ≤ (i : Int) := by omega
      have hi1 : (i : Int) < (n : Int) := by omega
      clear hx he
      have e0 := HX0.out.cell 0 _ rfl
      have e1 := HX0.out.cell 1 _ rfl
      have e2 := HX0.out.cell 2 _ rfl
      have e3 := HX0.out.cell 3 _ rfl
      have z0 := HX0.out.free 0
      have z1 := HX0.out.free 1
      have z2 := HX0.out.free 2
      have z3 := HX0.out.free 3
      go_wp2
      refine bodyPost_ret (results_cell_tmp rfl _ _ _ _ _ _ _ _ rfl rfl (HX0.out.put4 _ _ _ _) Try.underlying24 rfl (by kernel_rfl)) rfl ?_
      exact ⟨by rw [HG.out]; rfl, bel_put4N HB.out (Nat.le_refl _) _ _ _ _⟩
set_option maxHeartbeats 1000000 in
theorem Same12_any (a : Option Addr) (n cap : Nat) (s : List Nt) (a' : Option Addr) (n' cap' : Nat) (s' : List Nt) (w : World) (hA : NN w a n s) (hA' : NN w a' n' s') : Calls Try.prog 20 #[.slice a n cap, .slice a' n' cap'] w fun e w' => e = .returned (.bool (decide (s = s'))) ∧ Below w.heap.size w w' := by
  have HM := hide (equalN_any a n cap s a' n' cap' s' w hA hA')
  clear hA hA'
  go_enter Try.func20, Try.ntmps20
  go_wp2_with (go_at_call 26; refine HM.out.mono ?_; rintro e w1 ⟨rfl, hb⟩)
  go_ret
  exact ⟨rfl, hb⟩
end Go.Proofs.Ytohkopjacpendaa
