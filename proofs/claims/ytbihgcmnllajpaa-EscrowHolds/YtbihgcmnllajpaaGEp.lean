/- What the program's exported functions of layer 11 tell. -/
import Derived.Test.YtbihgcmnllajpaaGEd
namespace Go.Proofs.Ytbihgcmnllajpaa
open Go.RowKit Go.Lib
set_option linter.unusedVariables false
/-- Five numbers' cells. -/
def cells5 (p : List Int) : Array Value := #[.int .i64 (atH p 0), .int .i64 (atH p 1), .int .i64 (atH p 2), .int .i64 (atH p 3), .int .i64 (atH p 4)]
theorem cells5_set {p : List Int} (hl : p.length = 5) {q : Nat} (hq : q < 5) (v : Int) : (cells5 p).setIfInBounds q (.int .i64 v) = cells5 (p.set q v) := by
  match p, hl with
  | [a, b, c, d, e], _ => rcases (by omega : q = 0 ∨ q = 1 ∨ q = 2 ∨ q = 3 ∨ q = 4) with rfl | rfl | rfl | rfl | rfl <;> rfl
theorem cells5_at (p : List Int) {q : Nat} (hq : q < 5) : (cells5 p)[q]? = some (.int .i64 (atH p q)) := by
  rcases (by omega : q = 0 ∨ q = 1 ∨ q = 2 ∨ q = 3 ∨ q = 4) with rfl | rfl | rfl | rfl | rfl <;> rfl
theorem ix5_at (h : List Int) {q : Nat} (hq : q < 5) (W : World) : (Instr.index 50 (.agg #[.int .i64 (atH h 0), .int .i64 (atH h 1), .int .i64 (atH h 2), .int .i64 (atH h 3), .int .i64 (atH h 4)]) (.int .i64 (q : Int))).run Try.prog W = .ok (.int .i64 (atH h q)) W := by
  rcases (by omega : q = 0 ∨ q = 1 ∨ q = 2 ∨ q = 3 ∨ q = 4) with rfl | rfl | rfl | rfl | rfl
  · exact ix5_0 _ _ _ _ _ W
  · exact ix5_1 _ _ _ _ _ W
  · exact ix5_2 _ _ _ _ _ W
  · exact ix5_3 _ _ _ _ _ W
  · exact ix5_4 _ _ _ _ _ W
theorem repN {r : Int} (h : okRep r = true) : ∃ q : Nat, q < 5 ∧ r = (q : Int) + 1 := by
  have := of_decide_eq_true h
  exact ⟨(r - 1).toNat, by omega, by omega⟩
theorem okRep_of {q : Nat} (h : q < 5) : okRep ((q : Int) + 1) = true := decide_eq_true (by omega)
/-- Moved to one's own: nothing turns. -/
theorem inc_inc {h : List Int} (hl : h.length = 5) {r : Nat} (hr : r < 5) (m : Int) : incA (incA h (r + 1) (-m)) (r + 1) m = h := by
  have hr2 : r < h.length := by omega
  unfold incA
  rw [List.set_set, Nat.add_sub_cancel, atH_set hr2]
  rw [show atH h r + -m + m = atH h r by omega]
  unfold atH
  rw [List.getD_eq_getElem?_getD, List.getElem?_eq_getElem hr2]
  exact List.set_getElem_self hr2
theorem mov_is {s : List Ac} (h : mayA s = true) (t : ByteArray) {r q : Nat} (hr : r < 5) (m : Int) : setA s t (incA (incA (havA s t) (r + 1) (-m)) (q + 1) m) = movA s t (r + 1) (q + 1) m := by
  have p := mayA_parts h
  unfold movA
  split
  · rename_i e
    obtain rfl : q = r := by omega
    rw [inc_inc (havA_len p.2.1 t) hr, setA_same p.1 p.2.2.1]
  · rw [addA_add p.1 p.2.1]
set_option maxHeartbeats 2000000 in
theorem Number11_any (a : Option Addr) (n cap : Nat) (s : List Ac) (t : ByteArray) (w : World) (hA : AC w a n s) : Calls Try.prog 16 #[.slice a n cap, .string t] w fun e w' => e = .returned (.int .i64 (num11 s t)) ∧ Below w.heap.size w w' := by
  have HM := hide (Check11_any a n cap s w hA)
  have HV := hide hA
  clear hA
  rcases hm : mayA s with _ | _
  · have HC := hide (num11_no hm t)
    have HCK := hide (chk11_no hm)
    clear hm
    go_enter Try.func16, Try.ntmps16
    go_wp2_with (go_at_call 13; refine HM.out.mono ?_; rintro e w1 ⟨rfl, hb⟩; rw [HCK.out]; have HB := hide hb; clear hb)
    go_ret
    exact ⟨by rw [HC.out]; rfl, HB.out⟩
  · have HC : Hid (num11 s t = psum (havA s t) 5) := by unfold Hid; rw [num11_yes hm, psum_num]
    have HCK := hide (chk11_yes hm)
    have HHD := hide (fun W (g : AC W a n s) => held11_any a n cap s t W g hm)
    have hbd := psum_bd (bd_of (havA_may hm t))
    clear hm
    generalize havA s t = H at *
    have w0 : IntKind.i64.wrap (psum H 0 + atH H 0) = psum H 1 := by
      have h1 : -(1099511627776 * ((1 : Nat) : Int)) ≤ psum H 0 + atH H 0 ∧ psum H 0 + atH H 0 ≤ 1099511627776 * ((1 : Nat) : Int) := hbd 1
      show IntKind.i64.wrap (psum H 0 + atH H 0) = psum H 0 + atH H 0
      rw [IntKind.wrap_i64]
      omega
    have ix0 := ix5_0 (atH H 0) (atH H 1) (atH H 2) (atH H 3) (atH H 4)
    have w1 : IntKind.i64.wrap (psum H 1 + atH H 1) = psum H 2 := by
      have h1 : -(1099511627776 * ((2 : Nat) : Int)) ≤ psum H 1 + atH H 1 ∧ psum H 1 + atH H 1 ≤ 1099511627776 * ((2 : Nat) : Int) := hbd 2
      show IntKind.i64.wrap (psum H 1 + atH H 1) = psum H 1 + atH H 1
      rw [IntKind.wrap_i64]
      omega
    have ix1 := ix5_1 (atH H 0) (atH H 1) (atH H 2) (atH H 3) (atH H 4)
    have w2 : IntKind.i64.wrap (psum H 2 + atH H 2) = psum H 3 := by
      have h1 : -(1099511627776 * ((3 : Nat) : Int)) ≤ psum H 2 + atH H 2 ∧ psum H 2 + atH H 2 ≤ 1099511627776 * ((3 : Nat) : Int) := hbd 3
      show IntKind.i64.wrap (psum H 2 + atH H 2) = psum H 2 + atH H 2
      rw [IntKind.wrap_i64]
      omega
    have ix2 := ix5_2 (atH H 0) (atH H 1) (atH H 2) (atH H 3) (atH H 4)
    have w3 : IntKind.i64.wrap (psum H 3 + atH H 3) = psum H 4 := by
      have h1 : -(1099511627776 * ((4 : Nat) : Int)) ≤ psum H 3 + atH H 3 ∧ psum H 3 + atH H 3 ≤ 1099511627776 * ((4 : Nat) : Int) := hbd 4
      show IntKind.i64.wrap (psum H 3 + atH H 3) = psum H 3 + atH H 3
      rw [IntKind.wrap_i64]
      omega
    have ix3 := ix5_3 (atH H 0) (atH H 1) (atH H 2) (atH H 3) (atH H 4)
    have w4 : IntKind.i64.wrap (psum H 4 + atH H 4) = psum H 5 := by
      have h1 : -(1099511627776 * ((5 : Nat) : Int)) ≤ psum H 4 + atH H 4 ∧ psum H 4 + atH H 4 ≤ 1099511627776 * ((5 : Nat) : Int) := hbd 5
      show IntKind.i64.wrap (psum H 4 + atH H 4) = psum H 4 + atH H 4
      rw [IntKind.wrap_i64]
      omega
    have ix4 := ix5_4 (atH H 0) (atH H 1) (atH H 2) (atH H 3) (atH H 4)
    have hp0 : psum H 0 = 0 := rfl
    rw [hp0, Int.zero_add] at w0
    clear hbd
    have HW1 := hide w1
    have HW2 := hide w2
    have HW3 := hide w3
    have HW4 := hide w4
    clear w1 w2 w3 w4
    go_enter Try.func16, Try.ntmps16
    go_upto_region 5 with (first | (go_at_call 13; refine HM.out.mono ?_; rintro e w1 ⟨rfl, hb⟩; rw [HCK.out]; have HB := hide hb; clear hb) | (go_at_call 26; refine (HHD.out _ (HV.out.below HB.out)).mono ?_; rintro e w4 ⟨rfl, hb⟩; replace HB := hide (bel_next HB.out hb); clear hb))
    refine wp_loop_rounds 6 ?_
    rw [rounds_succ]
    go_wp2
    rw [rounds_succ]
    have w1 := HW1.out
    go_wp2
    rw [rounds_succ]
    have w2 := HW2.out
    go_wp2
    rw [rounds_succ]
    have w3 := HW3.out
    go_wp2
    rw [rounds_succ]
    have w4 := HW4.out
    go_wp2
    rw [rounds_succ]
    go_wp2
    go_ret
    exact ⟨by rw [HC.out]; rfl, HB.out⟩
set_option maxHeartbeats 2000000 in
theorem Rights11_any (a : Option Addr) (n cap : Nat) (s : List Ac) (t : ByteArray) (r f : Int) (w : World) (hA : AC w a n s) : Calls Try.prog 17 #[.slice a n cap, .string t, .int .i64 r, .int .i64 f] w fun e w' => e = .returned (.int .i64 (rgt11 s t r f)) ∧ Below w.heap.size w w' := by
  have HM := hide (Check11_any a n cap s w hA)
  have HV := hide hA
  clear hA
  rcases hm : mayA s with _ | _
  · have HC : Hid (rgt11 s t r f = 0) := by unfold Hid rgt11; rw [hm]; rfl
    have HCK := hide (chk11_no hm)
    clear hm
    go_enter Try.func17, Try.ntmps17
    go_wp2_with (first | (go_at_call 13; refine HM.out.mono ?_; rintro e w1 ⟨rfl, hb⟩; rw [HCK.out]; have HB := hide hb; clear hb))
    go_ret
    exact ⟨by rw [HC.out]; rfl, HB.out⟩
  · have HCK := hide (chk11_yes hm)
    rcases hr : okRep r with _ | _
    · have HC : Hid (rgt11 s t r f = 0) := by unfold Hid rgt11; rw [hr, Bool.and_false]; rfl
      have HR := hide hr
      clear hm hr
      go_enter Try.func17, Try.ntmps17
      go_wp2_with (first | (go_at_call 13; refine HM.out.mono ?_; rintro e w1 ⟨rfl, hb⟩; rw [HCK.out]; have HB := hide hb; clear hb) | (go_at_call 24; refine (rep11_any r _).mono ?_; rintro e w3 ⟨rfl, rfl⟩; rw [show okRep r = false from HR.out]))
      go_ret
      exact ⟨by rw [HC.out]; rfl, HB.out⟩
    · have HR := hide hr
      rcases hf : okFlo f with _ | _
      · have HC : Hid (rgt11 s t r f = 0) := by unfold Hid rgt11; rw [hf, Bool.and_false]; rfl
        have HF := hide hf
        clear hm hr hf
        go_enter Try.func17, Try.ntmps17
        go_wp2_with (first | (go_at_call 13; refine HM.out.mono ?_; rintro e w1 ⟨rfl, hb⟩; rw [HCK.out]; have HB := hide hb; clear hb) | (go_at_call 24; refine (rep11_any r _).mono ?_; rintro e w3 ⟨rfl, rfl⟩; rw [show okRep r = true from HR.out]) | (go_at_call 31; refine (flo11_any f _).mono ?_; rintro e w3 ⟨rfl, rfl⟩; rw [show okFlo f = false from HF.out]))
        go_ret
        exact ⟨by rw [HC.out]; rfl, HB.out⟩
      · have HF := hide hf
        have HC : Hid (rgt11 s t r f = rgtA (havA s t) r.toNat f) := by unfold Hid rgt11; rw [hm, hr, hf]; rfl
        have HHD := hide (fun W (g : AC W a n s) => held11_any a n cap s t W g hm)
        have hb := bd_of (havA_may hm t)
        have hf2 := of_decide_eq_true hf
        obtain ⟨q, hq, rfl⟩ := repN hr
        clear hm hr hf
        generalize havA s t = H at *
        have hb0 := hb q
        clear hb
        rcases q with _ | q
        · have hw : IntKind.i64.wrap (atH H 0 - f) = atH H 0 - f := by rw [IntKind.wrap_i64]; omega
          have HC2 : Hid (rgt11 s t 1 f = atH H 0 - f) := HC.out
          replace HR : Hid (okRep 1 = true) := rfl
          show Calls Try.prog 17 #[.slice a n cap, .string t, .int .i64 1, .int .i64 f] w fun e w' => e = .returned (.int .i64 (rgt11 s t 1 f)) ∧ Below w.heap.size w w'
          have ix := ix5_0 (atH H 0) (atH H 1) (atH H 2) (atH H 3) (atH H 4)
          go_enter Try.func17, Try.ntmps17
          go_wp2_with (first | (go_at_call 13; refine HM.out.mono ?_; rintro e w1 ⟨rfl, hb⟩; rw [HCK.out]; have HB := hide hb; clear hb) | (go_at_call 24; refine (rep11_any _ _).mono ?_; rintro e w3 ⟨rfl, rfl⟩; rw [show okRep _ = true from HR.out]) | (go_at_call 31; refine (flo11_any f _).mono ?_; rintro e w3 ⟨rfl, rfl⟩; rw [show okFlo f = true from HF.out]) | (go_at_call 26; refine (HHD.out _ (HV.out.below HB.out)).mono ?_; rintro e w4 ⟨rfl, hb⟩; replace HB := hide (bel_next HB.out hb); clear hb))
          go_ret
          exact ⟨by rw [HC2.out]; rfl, HB.out⟩
        · have h1 : ¬ (((q + 1 : Nat) : Int) + 1 = 1) := by omega
          have h2 : ((((q + 1 : Nat) : Int) + 1) == 1) = false := by rw [beq_eq_false_iff_ne]; exact h1
          have HC2 : Hid (rgt11 s t (((q + 1 : Nat) : Int) + 1) f = atH H (q + 1)) := by
            unfold Hid
            rw [HC.out]
            unfold rgtA
            rw [if_neg (by omega)]
            congr 1
          have ix := ix5_at H hq
          generalize hqq : q + 1 = qq at *
          have r5 := wrapT (show qq ≤ 9223372036854775807 by omega)
          clear hqq
          go_enter Try.func17, Try.ntmps17
          go_wp2_with (first | (go_at_call 13; refine HM.out.mono ?_; rintro e w1 ⟨rfl, hb⟩; rw [HCK.out]; have HB := hide hb; clear hb) | (go_at_call 24; refine (rep11_any _ _).mono ?_; rintro e w3 ⟨rfl, rfl⟩; rw [show okRep _ = true from HR.out]) | (go_at_call 31; refine (flo11_any f _).mono ?_; rintro e w3 ⟨rfl, rfl⟩; rw [show okFlo f = true from HF.out]) | (go_at_call 26; refine (HHD.out _ (HV.out.below HB.out)).mono ?_; rintro e w4 ⟨rfl, hb⟩; replace HB := hide (bel_next HB.out hb); clear hb))
          go_ret
          exact ⟨by rw [HC2.out]; rfl, HB.out⟩
set_option maxHeartbeats 2000000 in
theorem May11_any (a : Option Addr) (n cap : Nat) (s : List Ac) (t : ByteArray) (r f m : Int) (w : World) (hA : AC w a n s) : Calls Try.prog 18 #[.slice a n cap, .string t, .int .i64 r, .int .i64 f, .int .i64 m] w fun e w' => e = .returned (.int .i64 (may11 s t r f m)) ∧ Below w.heap.size w w' := by
  have HM := hide (Check11_any a n cap s w hA)
  have HV := hide hA
  clear hA
  rcases hm : mayA s with _ | _
  · have HC : Hid (may11 s t r f m = 1) := by unfold Hid may11; rw [hm]; rfl
    have HCK := hide (chk11_no hm)
    clear hm
    go_enter Try.func18, Try.ntmps18
    go_wp2_with (first | (go_at_call 13; refine HM.out.mono ?_; rintro e w1 ⟨rfl, hb⟩; rw [HCK.out]; have HB := hide hb; clear hb))
    go_ret
    exact ⟨by rw [HC.out]; rfl, HB.out⟩
  · have HCK := hide (chk11_yes hm)
    rcases hk : mayK t with _ | _
    · have HC : Hid (may11 s t r f m = 1) := by unfold Hid may11; rw [hm, hk]; rfl
      have HKY := hide hk
      clear hm hk
      go_enter Try.func18, Try.ntmps18
      go_wp2_with (first | (go_at_call 13; refine HM.out.mono ?_; rintro e w1 ⟨rfl, hb⟩; rw [HCK.out]; have HB := hide hb; clear hb) | (go_at_call 23; refine (key11_any t _).mono ?_; rintro e w2 ⟨rfl, rfl⟩; rw [HKY.out]))
      go_ret
      exact ⟨by rw [HC.out]; rfl, HB.out⟩
    · have HKY := hide hk
      rcases hr : okRep r with _ | _
      · have HC : Hid (may11 s t r f m = 1) := by unfold Hid may11; rw [hm, hk, hr]; rfl
        have HR := hide hr
        clear hm hk hr
        go_enter Try.func18, Try.ntmps18
        go_wp2_with (first | (go_at_call 13; refine HM.out.mono ?_; rintro e w1 ⟨rfl, hb⟩; rw [HCK.out]; have HB := hide hb; clear hb) | (go_at_call 23; refine (key11_any t _).mono ?_; rintro e w2 ⟨rfl, rfl⟩; rw [HKY.out]) | (go_at_call 24; refine (rep11_any r _).mono ?_; rintro e w3 ⟨rfl, rfl⟩; rw [show okRep r = false from HR.out]))
        go_ret
        exact ⟨by rw [HC.out]; rfl, HB.out⟩
      · have HR := hide hr
        rcases hf : okFlo f with _ | _
        · have HC : Hid (may11 s t r f m = 1) := by unfold Hid may11; rw [hf]; simp
          have HF := hide hf
          clear hm hk hr hf
          go_enter Try.func18, Try.ntmps18
          go_wp2_with (first | (go_at_call 13; refine HM.out.mono ?_; rintro e w1 ⟨rfl, hb⟩; rw [HCK.out]; have HB := hide hb; clear hb) | (go_at_call 23; refine (key11_any t _).mono ?_; rintro e w2 ⟨rfl, rfl⟩; rw [HKY.out]) | (go_at_call 24; refine (rep11_any r _).mono ?_; rintro e w3 ⟨rfl, rfl⟩; rw [show okRep r = true from HR.out]) | (go_at_call 31; refine (flo11_any f _).mono ?_; rintro e w3 ⟨rfl, rfl⟩; rw [show okFlo f = false from HF.out]))
          go_ret
          exact ⟨by rw [HC.out]; rfl, HB.out⟩
        · have HF := hide hf
          by_cases m1 : m < 1
          · have HC : Hid (may11 s t r f m = 1) := by unfold Hid may11; rw [show okMuch m = false from decide_eq_false (by omega), Bool.and_false]; rfl
            clear hm hk hr hf
            go_enter Try.func18, Try.ntmps18
            go_wp2_with (first | (go_at_call 13; refine HM.out.mono ?_; rintro e w1 ⟨rfl, hb⟩; rw [HCK.out]; have HB := hide hb; clear hb) | (go_at_call 23; refine (key11_any t _).mono ?_; rintro e w2 ⟨rfl, rfl⟩; rw [HKY.out]) | (go_at_call 24; refine (rep11_any r _).mono ?_; rintro e w3 ⟨rfl, rfl⟩; rw [show okRep r = true from HR.out]) | (go_at_call 31; refine (flo11_any f _).mono ?_; rintro e w3 ⟨rfl, rfl⟩; rw [show okFlo f = true from HF.out]))
            go_ret
            exact ⟨by rw [HC.out]; rfl, HB.out⟩
          · by_cases m2 : m ≤ 1000
            · have HAM : Hid (amtA m = true) := decide_eq_true (by omega)
              have HC : Hid (may11 s t r f m = if rgt11 s t r f < m then 5 else 0) := by
                unfold Hid may11 rgt11
                rw [hm, hk, hr, hf, show okMuch m = true from decide_eq_true (by omega)]
                rfl
              have HRT := hide (fun W (g : AC W a n s) => Rights11_any a n cap s t r f W g)
              clear hm hk hr hf
              generalize rgt11 s t r f = z at *
              by_cases hz : z < m
              · replace HC : Hid (may11 s t r f m = 5) := by unfold Hid; rw [HC.out, if_pos hz]
                go_enter Try.func18, Try.ntmps18
                go_wp2_with (first | (go_at_call 13; refine HM.out.mono ?_; rintro e w1 ⟨rfl, hb⟩; rw [HCK.out]; have HB := hide hb; clear hb) | (go_at_call 23; refine (key11_any t _).mono ?_; rintro e w2 ⟨rfl, rfl⟩; rw [HKY.out]) | (go_at_call 24; refine (rep11_any r _).mono ?_; rintro e w3 ⟨rfl, rfl⟩; rw [show okRep r = true from HR.out]) | (go_at_call 31; refine (flo11_any f _).mono ?_; rintro e w3 ⟨rfl, rfl⟩; rw [show okFlo f = true from HF.out]) | (go_at_call 25; refine (amt11_any m _).mono ?_; rintro e w3 ⟨rfl, rfl⟩; rw [show amtA m = true from HAM.out]) | (go_at_call 17; refine (HRT.out _ (HV.out.below HB.out)).mono ?_; rintro e w5 ⟨rfl, hb⟩; replace HB := hide (bel_next HB.out hb); clear hb))
                go_ret
                exact ⟨by rw [HC.out]; rfl, HB.out⟩
              · replace HC : Hid (may11 s t r f m = 0) := by unfold Hid; rw [HC.out, if_neg hz]
                go_enter Try.func18, Try.ntmps18
                go_wp2_with (first | (go_at_call 13; refine HM.out.mono ?_; rintro e w1 ⟨rfl, hb⟩; rw [HCK.out]; have HB := hide hb; clear hb) | (go_at_call 23; refine (key11_any t _).mono ?_; rintro e w2 ⟨rfl, rfl⟩; rw [HKY.out]) | (go_at_call 24; refine (rep11_any r _).mono ?_; rintro e w3 ⟨rfl, rfl⟩; rw [show okRep r = true from HR.out]) | (go_at_call 31; refine (flo11_any f _).mono ?_; rintro e w3 ⟨rfl, rfl⟩; rw [show okFlo f = true from HF.out]) | (go_at_call 25; refine (amt11_any m _).mono ?_; rintro e w3 ⟨rfl, rfl⟩; rw [show amtA m = true from HAM.out]) | (go_at_call 17; refine (HRT.out _ (HV.out.below HB.out)).mono ?_; rintro e w5 ⟨rfl, hb⟩; replace HB := hide (bel_next HB.out hb); clear hb))
                go_ret
                exact ⟨by rw [HC.out]; rfl, HB.out⟩
            · have HAM : Hid (amtA m = false) := decide_eq_false (by omega)
              have HC : Hid (may11 s t r f m = 1) := by unfold Hid may11; rw [show okMuch m = false from decide_eq_false (by omega), Bool.and_false]; rfl
              clear hm hk hr hf
              go_enter Try.func18, Try.ntmps18
              go_wp2_with (first | (go_at_call 13; refine HM.out.mono ?_; rintro e w1 ⟨rfl, hb⟩; rw [HCK.out]; have HB := hide hb; clear hb) | (go_at_call 23; refine (key11_any t _).mono ?_; rintro e w2 ⟨rfl, rfl⟩; rw [HKY.out]) | (go_at_call 24; refine (rep11_any r _).mono ?_; rintro e w3 ⟨rfl, rfl⟩; rw [show okRep r = true from HR.out]) | (go_at_call 31; refine (flo11_any f _).mono ?_; rintro e w3 ⟨rfl, rfl⟩; rw [show okFlo f = true from HF.out]) | (go_at_call 25; refine (amt11_any m _).mono ?_; rintro e w3 ⟨rfl, rfl⟩; rw [show amtA m = false from HAM.out]))
              go_ret
              exact ⟨by rw [HC.out]; rfl, HB.out⟩
set_option maxHeartbeats 1000000 in
theorem Same11_any (a : Option Addr) (n cap : Nat) (s : List Ac) (a' : Option Addr) (n' cap' : Nat) (s' : List Ac) (w : World) (hA : AC w a n s) (hA' : AC w a' n' s') : Calls Try.prog 21 #[.slice a n cap, .slice a' n' cap'] w fun e w' => e = .returned (.bool (decide (s = s'))) ∧ Below w.heap.size w w' := by
  have HM := hide (equalA_any a n cap s a' n' cap' s' w hA hA')
  clear hA hA'
  go_enter Try.func21, Try.ntmps21
  go_wp2_with (go_at_call 32; refine HM.out.mono ?_; rintro e w1 ⟨rfl, hb⟩)
  go_ret
  exact ⟨rfl, hb⟩
set_option maxHeartbeats 2000000 in
theorem Up11_bad (a : Option Addr) (n cap : Nat) (s : List Ac) (t : ByteArray) (r m : Int) (w : World) (hA : AC w a n s) (hno : okUp s t r m = false) : Calls Try.prog 9 #[.slice a n cap, .string t, .int .i64 r, .int .i64 m] w fun e w' => e = .returned (.tuple #[.slice none 0 0, .int .i64 1]) ∧ Below w.heap.size w w' := by
  have HM := hide (Check11_any a n cap s w hA)
  clear hA
  unfold okUp at hno
  rcases hm : mayA s with _ | _
  · have HCK := hide (chk11_no hm)
    clear hm hno
    go_enter Try.func9, Try.ntmps9
    go_wp2_with (first | (go_at_call 13; refine HM.out.mono ?_; rintro e w1 ⟨rfl, hb⟩; rw [HCK.out]; have HB := hide hb; clear hb))
    go_ret2
    exact ⟨rfl, HB.out⟩
  · have HCK := hide (chk11_yes hm)
    rw [hm, Bool.true_and] at hno
    clear hm
    rcases hk : mayK t with _ | _
    · have HKY := hide hk
      clear hk hno
      go_enter Try.func9, Try.ntmps9
      go_wp2_with (first | (go_at_call 13; refine HM.out.mono ?_; rintro e w1 ⟨rfl, hb⟩; rw [HCK.out]; have HB := hide hb; clear hb) | (go_at_call 23; refine (key11_any t _).mono ?_; rintro e w2 ⟨rfl, rfl⟩; rw [HKY.out]))
      go_ret2
      exact ⟨rfl, HB.out⟩
    · have HKY := hide hk
      rw [hk, Bool.true_and] at hno
      clear hk
      rcases hr : okRep r with _ | _
      · have HR := hide hr
        clear hr hno
        go_enter Try.func9, Try.ntmps9
        go_wp2_with (first | (go_at_call 13; refine HM.out.mono ?_; rintro e w1 ⟨rfl, hb⟩; rw [HCK.out]; have HB := hide hb; clear hb) | (go_at_call 23; refine (key11_any t _).mono ?_; rintro e w2 ⟨rfl, rfl⟩; rw [HKY.out]) | (go_at_call 24; refine (rep11_any r _).mono ?_; rintro e w3 ⟨rfl, rfl⟩; rw [show okRep r = false from HR.out]))
        go_ret2
        exact ⟨rfl, HB.out⟩
      · have HR := hide hr
        rw [hr, Bool.true_and] at hno
        have HAM := hide hno
        clear hr hno
        go_enter Try.func9, Try.ntmps9
        go_wp2_with (first | (go_at_call 13; refine HM.out.mono ?_; rintro e w1 ⟨rfl, hb⟩; rw [HCK.out]; have HB := hide hb; clear hb) | (go_at_call 23; refine (key11_any t _).mono ?_; rintro e w2 ⟨rfl, rfl⟩; rw [HKY.out]) | (go_at_call 24; refine (rep11_any r _).mono ?_; rintro e w3 ⟨rfl, rfl⟩; rw [show okRep r = true from HR.out]) | (go_at_call 25; refine (amt11_any m _).mono ?_; rintro e w3 ⟨rfl, rfl⟩; rw [show amtA m = false from HAM.out]))
        go_ret2
        exact ⟨rfl, HB.out⟩
set_option maxHeartbeats 2000000 in
theorem Move11_bad (a : Option Addr) (n cap : Nat) (s : List Ac) (t : ByteArray) (r q m : Int) (w : World) (hA : AC w a n s) (hno : okMov s t r q m = false) : Calls Try.prog 10 #[.slice a n cap, .string t, .int .i64 r, .int .i64 q, .int .i64 m] w fun e w' => e = .returned (.tuple #[.slice none 0 0, .int .i64 1]) ∧ Below w.heap.size w w' := by
  have HM := hide (Check11_any a n cap s w hA)
  clear hA
  unfold okMov at hno
  rcases hm : mayA s with _ | _
  · have HCK := hide (chk11_no hm)
    clear hm hno
    go_enter Try.func10, Try.ntmps10
    go_wp2_with (first | (go_at_call 13; refine HM.out.mono ?_; rintro e w1 ⟨rfl, hb⟩; rw [HCK.out]; have HB := hide hb; clear hb))
    go_ret2
    exact ⟨rfl, HB.out⟩
  · have HCK := hide (chk11_yes hm)
    rw [hm, Bool.true_and] at hno
    clear hm
    rcases hk : mayK t with _ | _
    · have HKY := hide hk
      clear hk hno
      go_enter Try.func10, Try.ntmps10
      go_wp2_with (first | (go_at_call 13; refine HM.out.mono ?_; rintro e w1 ⟨rfl, hb⟩; rw [HCK.out]; have HB := hide hb; clear hb) | (go_at_call 23; refine (key11_any t _).mono ?_; rintro e w2 ⟨rfl, rfl⟩; rw [HKY.out]))
      go_ret2
      exact ⟨rfl, HB.out⟩
    · have HKY := hide hk
      rw [hk, Bool.true_and] at hno
      clear hk
      rcases hr : okRep r with _ | _
      · have HR := hide hr
        clear hr hno
        go_enter Try.func10, Try.ntmps10
        go_wp2_with (first | (go_at_call 13; refine HM.out.mono ?_; rintro e w1 ⟨rfl, hb⟩; rw [HCK.out]; have HB := hide hb; clear hb) | (go_at_call 23; refine (key11_any t _).mono ?_; rintro e w2 ⟨rfl, rfl⟩; rw [HKY.out]) | (go_at_call 24; refine (rep11_any r _).mono ?_; rintro e w3 ⟨rfl, rfl⟩; rw [show okRep r = false from HR.out]))
        go_ret2
        exact ⟨rfl, HB.out⟩
      · have HR := hide hr
        rw [hr, Bool.true_and] at hno
        clear hr
        rcases hq : okRep q with _ | _
        · have HQ := hide hq
          clear hq hno
          go_enter Try.func10, Try.ntmps10
          go_wp2_with (first | (go_at_call 13; refine HM.out.mono ?_; rintro e w1 ⟨rfl, hb⟩; rw [HCK.out]; have HB := hide hb; clear hb) | (go_at_call 23; refine (key11_any t _).mono ?_; rintro e w2 ⟨rfl, rfl⟩; rw [HKY.out]) | (go_at_call 24; refine (rep11_any r _).mono ?_; rintro e w3 ⟨rfl, rfl⟩; rw [show okRep r = true from HR.out]) | (go_at_call 24; refine (rep11_any q _).mono ?_; rintro e w3 ⟨rfl, rfl⟩; rw [show okRep q = false from HQ.out]))
          go_ret2
          exact ⟨rfl, HB.out⟩
        · have HQ := hide hq
          rw [hq, Bool.true_and] at hno
          clear hq
          by_cases m1 : m < 1
          · clear hno
            go_enter Try.func10, Try.ntmps10
            go_wp2_with (first | (go_at_call 13; refine HM.out.mono ?_; rintro e w1 ⟨rfl, hb⟩; rw [HCK.out]; have HB := hide hb; clear hb) | (go_at_call 23; refine (key11_any t _).mono ?_; rintro e w2 ⟨rfl, rfl⟩; rw [HKY.out]) | (go_at_call 24; refine (rep11_any r _).mono ?_; rintro e w3 ⟨rfl, rfl⟩; rw [show okRep r = true from HR.out]) | (go_at_call 24; refine (rep11_any q _).mono ?_; rintro e w3 ⟨rfl, rfl⟩; rw [show okRep q = true from HQ.out]))
            go_ret2
            exact ⟨rfl, HB.out⟩
          · have HAM : Hid (amtA m = false) := by
              have := of_decide_eq_false hno
              exact decide_eq_false (by omega)
            clear hno
            go_enter Try.func10, Try.ntmps10
            go_wp2_with (first | (go_at_call 13; refine HM.out.mono ?_; rintro e w1 ⟨rfl, hb⟩; rw [HCK.out]; have HB := hide hb; clear hb) | (go_at_call 23; refine (key11_any t _).mono ?_; rintro e w2 ⟨rfl, rfl⟩; rw [HKY.out]) | (go_at_call 24; refine (rep11_any r _).mono ?_; rintro e w3 ⟨rfl, rfl⟩; rw [show okRep r = true from HR.out]) | (go_at_call 24; refine (rep11_any q _).mono ?_; rintro e w3 ⟨rfl, rfl⟩; rw [show okRep q = true from HQ.out]) | (go_at_call 25; refine (amt11_any m _).mono ?_; rintro e w3 ⟨rfl, rfl⟩; rw [show amtA m = false from HAM.out]))
            go_ret2
            exact ⟨rfl, HB.out⟩
set_option maxHeartbeats 4000000 in
theorem Up11_tells (a : Option Addr) (n cap : Nat) (s : List Ac) (t : ByteArray) (r : Nat) (hr : r < 5) (m : Int) (hm : -1000 ≤ m ∧ m ≤ 1000) (w : World) (hA : AC w a n s) (hC : CP a n cap) (h1 : mayA s = true) (hk : mayK t = true)  : Calls Try.prog 9 #[.slice a n cap, .string t, .int .i64 ((r : Int) + 1), .int .i64 m] w fun e w' => (if mayA (addA s t (r + 1) m) = true then ∃ p cp, e = .returned (.tuple #[.slice p (addA s t (r + 1) m).length cp, .int .i64 0]) ∧ AC w' p (addA s t (r + 1) m).length (addA s t (r + 1) m) ∧ CP p (addA s t (r + 1) m).length cp else e = .returned (.tuple #[.slice none 0 0, .int .i64 6])) ∧ Below w.heap.size w w' := by
  have HM := hide (Check11_any a n cap s w hA)
  have HCK := hide (chk11_yes h1)
  have HV := hide hA
  have HKY := hide hk
  have p := mayA_parts h1
  have hln := hA.1.1
  have hfv := hA.2
  have HHD := hide (fun W (g : AC W a n s) => held11_any a n cap s t W g h1)
  have hl5 := havA_len p.2.1 t
  have hbd := bd_of (havA_may h1 t)
  have r3 : (r : Int) < 5 := by omega
  have r4 : (0 : Int) ≤ (r : Int) := by omega
  have r5 := wrapT (show r ≤ 9223372036854775807 by omega)
  have HR := hide (okRep_of hr)
  have HAM : Hid (amtA m = true) := decide_eq_true hm
  have HWT : Hid (∀ W, AC W a n s → Calls Try.prog 28 #[.slice a n cap, .string t, .agg #[.int .i64 (atH (incA (havA s t) (r + 1) m) 0), .int .i64 (atH (incA (havA s t) (r + 1) m) 1), .int .i64 (atH (incA (havA s t) (r + 1) m) 2), .int .i64 (atH (incA (havA s t) (r + 1) m) 3), .int .i64 (atH (incA (havA s t) (r + 1) m) 4)]] W fun e w' => ∃ p c, e = .returned (.slice p (addA s t (r + 1) m).length c) ∧ AC w' p (addA s t (r + 1) m).length (addA s t (r + 1) m) ∧ CP p (addA s t (r + 1) m).length c ∧ Below W.heap.size W w') := fun W g => with_any a n cap s t (incA (havA s t) (r + 1) m) ((incA_len _ _ _).trans hl5) W g hC p.1 (by have := p.2.2.2; omega)
  clear hA h1 hk p hfv hln hC
  generalize havA s t = H at *
  generalize hA9 : addA s t (r + 1) m = A at *
  have HFT := hide (fun p c W (g : AC W p A.length A) => fit_any p A.length c A W g)
  generalize A.length = nA at *
  clear hA9
  rcases hma : mayA A with _ | _
  · have HMY := hide hma
    clear hma
    go_enter Try.func9, Try.ntmps9
    go_upto_region 4 with (first | (go_at_call 13; refine HM.out.mono ?_; rintro e w1 ⟨rfl, hb⟩; rw [HCK.out]; have HB := hide hb; clear hb) | (go_at_call 23; refine (key11_any t _).mono ?_; rintro e w2 ⟨rfl, rfl⟩; rw [HKY.out]) | (go_at_call 24; refine (rep11_any _ _).mono ?_; rintro e w3 ⟨rfl, rfl⟩; rw [show okRep _ = true from HR.out]) | (go_at_call 25; refine (amt11_any m _).mono ?_; rintro e w3 ⟨rfl, rfl⟩; rw [show amtA m = true from HAM.out]) | (go_at_call 26; refine (HHD.out _ (HV.out.below HB.out)).mono ?_; rintro e w4 ⟨rfl, hb⟩; replace HB := hide (bel_next HB.out hb); clear hb))
    have HX : Hid (BX (w4.alloc (.cells (cells5 H) 50)) w4.heap.size (cells5 H) 50) := BX.new w4 _ rfl _ _
    have HB0 : Hid (Below w.heap.size w (w4.alloc (.cells (cells5 H) 50))) := HB.out.alloc HB.out.size _
    have hgb2 : w.heap.size ≤ w4.heap.size := HB.out.size
    replace HB := HB0
    clear HB0
    unfold cells5 at HX HB
    generalize hgb : w4.heap.size = gb at *
    generalize hu : w4.alloc (.cells #[.int .i64 (atH H 0), .int .i64 (atH H 1), .int .i64 (atH H 2), .int .i64 (atH H 3), .int .i64 (atH H 4)] 50) = u at *
    clear hu hgb
    change Hid (BX u gb (cells5 H) 50) at HX
    obtain ⟨H2, hH2⟩ : ∃ H2, incA H (r + 1) m = H2 := ⟨_, rfl⟩
    rw [hH2] at HWT
    have e0 := HX.out.cell r _ (cells5_at H hr)
    have f0 := HX.out.free r
    have hw : IntKind.i64.wrap (atH H r + m) = atH H r + m := by
      have := hbd r
      rw [IntKind.wrap_i64]
      omega
    clear hbd
    go_upto_region 5 with fail
    have HB1 : Hid (Below w.heap.size w (u.setCell ⟨gb, r, none⟩ (.int .i64 (atH H r + m)))) := HB.out.setCell hgb2 _
    have HX1 : Hid (BX (u.setCell ⟨gb, r, none⟩ (.int .i64 (atH H r + m))) gb (cells5 H2) 50) := by
      have := HX.out.set r (.int .i64 (atH H r + m))
      rw [cells5_set hl5 hr] at this
      rw [← hH2]
      exact this
    clear HB HX e0 f0 hw
    have HB := HB1
    have HX := HX1
    clear HB1 HX1
    generalize u.setCell ⟨gb, r, none⟩ (.int .i64 (atH H r + m)) = u1 at *
    have y0 := HX.out.cell 0 _ (cells5_at H2 (by omega : 0 < 5))
    have y1 := HX.out.cell 1 _ (cells5_at H2 (by omega : 1 < 5))
    have y2 := HX.out.cell 2 _ (cells5_at H2 (by omega : 2 < 5))
    have y3 := HX.out.cell 3 _ (cells5_at H2 (by omega : 3 < 5))
    have y4 := HX.out.cell 4 _ (cells5_at H2 (by omega : 4 < 5))

    go_wp2_with (first | (go_at_call 28; refine (HWT.out _ (HV.out.below HB.out)).mono ?_; rintro e w5 ⟨p3, c3, rfl, hn3, hc3, hb⟩; have HN3 := hide hn3; have HC3 := hide hc3; replace HB := hide (bel_next HB.out hb); clear hn3 hc3 hb) | (go_at_call 27; refine (HFT.out p3 c3 _ HN3.out).mono ?_; rintro e w6 ⟨rfl, hb⟩; rw [HMY.out]; replace HN3 := hide (HN3.out.below hb); replace HB := hide (bel_next HB.out hb); clear hb))
    go_ret2
    exact ⟨rfl, HB.out⟩
  · have HMY := hide hma
    clear hma
    go_enter Try.func9, Try.ntmps9
    go_upto_region 4 with (first | (go_at_call 13; refine HM.out.mono ?_; rintro e w1 ⟨rfl, hb⟩; rw [HCK.out]; have HB := hide hb; clear hb) | (go_at_call 23; refine (key11_any t _).mono ?_; rintro e w2 ⟨rfl, rfl⟩; rw [HKY.out]) | (go_at_call 24; refine (rep11_any _ _).mono ?_; rintro e w3 ⟨rfl, rfl⟩; rw [show okRep _ = true from HR.out]) | (go_at_call 25; refine (amt11_any m _).mono ?_; rintro e w3 ⟨rfl, rfl⟩; rw [show amtA m = true from HAM.out]) | (go_at_call 26; refine (HHD.out _ (HV.out.below HB.out)).mono ?_; rintro e w4 ⟨rfl, hb⟩; replace HB := hide (bel_next HB.out hb); clear hb))
    have HX : Hid (BX (w4.alloc (.cells (cells5 H) 50)) w4.heap.size (cells5 H) 50) := BX.new w4 _ rfl _ _
    have HB0 : Hid (Below w.heap.size w (w4.alloc (.cells (cells5 H) 50))) := HB.out.alloc HB.out.size _
    have hgb2 : w.heap.size ≤ w4.heap.size := HB.out.size
    replace HB := HB0
    clear HB0
    unfold cells5 at HX HB
    generalize hgb : w4.heap.size = gb at *
    generalize hu : w4.alloc (.cells #[.int .i64 (atH H 0), .int .i64 (atH H 1), .int .i64 (atH H 2), .int .i64 (atH H 3), .int .i64 (atH H 4)] 50) = u at *
    clear hu hgb
    change Hid (BX u gb (cells5 H) 50) at HX
    obtain ⟨H2, hH2⟩ : ∃ H2, incA H (r + 1) m = H2 := ⟨_, rfl⟩
    rw [hH2] at HWT
    have e0 := HX.out.cell r _ (cells5_at H hr)
    have f0 := HX.out.free r
    have hw : IntKind.i64.wrap (atH H r + m) = atH H r + m := by
      have := hbd r
      rw [IntKind.wrap_i64]
      omega
    clear hbd
    go_upto_region 5 with fail
    have HB1 : Hid (Below w.heap.size w (u.setCell ⟨gb, r, none⟩ (.int .i64 (atH H r + m)))) := HB.out.setCell hgb2 _
    have HX1 : Hid (BX (u.setCell ⟨gb, r, none⟩ (.int .i64 (atH H r + m))) gb (cells5 H2) 50) := by
      have := HX.out.set r (.int .i64 (atH H r + m))
      rw [cells5_set hl5 hr] at this
      rw [← hH2]
      exact this
    clear HB HX e0 f0 hw
    have HB := HB1
    have HX := HX1
    clear HB1 HX1
    generalize u.setCell ⟨gb, r, none⟩ (.int .i64 (atH H r + m)) = u1 at *
    have y0 := HX.out.cell 0 _ (cells5_at H2 (by omega : 0 < 5))
    have y1 := HX.out.cell 1 _ (cells5_at H2 (by omega : 1 < 5))
    have y2 := HX.out.cell 2 _ (cells5_at H2 (by omega : 2 < 5))
    have y3 := HX.out.cell 3 _ (cells5_at H2 (by omega : 3 < 5))
    have y4 := HX.out.cell 4 _ (cells5_at H2 (by omega : 4 < 5))

    go_wp2_with (first | (go_at_call 28; refine (HWT.out _ (HV.out.below HB.out)).mono ?_; rintro e w5 ⟨p3, c3, rfl, hn3, hc3, hb⟩; have HN3 := hide hn3; have HC3 := hide hc3; replace HB := hide (bel_next HB.out hb); clear hn3 hc3 hb) | (go_at_call 27; refine (HFT.out p3 c3 _ HN3.out).mono ?_; rintro e w6 ⟨rfl, hb⟩; rw [HMY.out]; replace HN3 := hide (HN3.out.below hb); replace HB := hide (bel_next HB.out hb); clear hb))
    go_ret2
    exact ⟨⟨p3, c3, rfl, HN3.out, HC3.out⟩, HB.out⟩
set_option maxHeartbeats 4000000 in
theorem Move11_tells (a : Option Addr) (n cap : Nat) (s : List Ac) (t : ByteArray) (r q : Nat) (hr : r < 5) (hq : q < 5) (m : Int) (hm : 1 ≤ m ∧ m ≤ 1000) (w : World) (hA : AC w a n s) (hC : CP a n cap) (h1 : mayA s = true) (hk : mayK t = true)  : Calls Try.prog 10 #[.slice a n cap, .string t, .int .i64 ((r : Int) + 1), .int .i64 ((q : Int) + 1), .int .i64 m] w fun e w' => (if mayA (movA s t (r + 1) (q + 1) m) = true then ∃ p cp, e = .returned (.tuple #[.slice p (movA s t (r + 1) (q + 1) m).length cp, .int .i64 0]) ∧ AC w' p (movA s t (r + 1) (q + 1) m).length (movA s t (r + 1) (q + 1) m) ∧ CP p (movA s t (r + 1) (q + 1) m).length cp else e = .returned (.tuple #[.slice none 0 0, .int .i64 6])) ∧ Below w.heap.size w w' := by
  have HM := hide (Check11_any a n cap s w hA)
  have HCK := hide (chk11_yes h1)
  have HV := hide hA
  have HKY := hide hk
  have p := mayA_parts h1
  have hln := hA.1.1
  have hfv := hA.2
  have HHD := hide (fun W (g : AC W a n s) => held11_any a n cap s t W g h1)
  have hl5 := havA_len p.2.1 t
  have hbd := bd_of (havA_may h1 t)
  have r3 : (r : Int) < 5 := by omega
  have r4 : (0 : Int) ≤ (r : Int) := by omega
  have r5 := wrapT (show r ≤ 9223372036854775807 by omega)
  have HR := hide (okRep_of hr)
  have HAM : Hid (amtA m = true) := decide_eq_true (by omega)
  have hm9 : ¬ (m < 1) := by omega
  have q3 : (q : Int) < 5 := by omega
  have q4 : (0 : Int) ≤ (q : Int) := by omega
  have q5 := wrapT (show q ≤ 9223372036854775807 by omega)
  have HQ := hide (okRep_of hq)
  have HWT : Hid (∀ W, AC W a n s → Calls Try.prog 28 #[.slice a n cap, .string t, .agg #[.int .i64 (atH (incA (incA (havA s t) (r + 1) (-m)) (q + 1) m) 0), .int .i64 (atH (incA (incA (havA s t) (r + 1) (-m)) (q + 1) m) 1), .int .i64 (atH (incA (incA (havA s t) (r + 1) (-m)) (q + 1) m) 2), .int .i64 (atH (incA (incA (havA s t) (r + 1) (-m)) (q + 1) m) 3), .int .i64 (atH (incA (incA (havA s t) (r + 1) (-m)) (q + 1) m) 4)]] W fun e w' => ∃ p c, e = .returned (.slice p (movA s t (r + 1) (q + 1) m).length c) ∧ AC w' p (movA s t (r + 1) (q + 1) m).length (movA s t (r + 1) (q + 1) m) ∧ CP p (movA s t (r + 1) (q + 1) m).length c ∧ Below W.heap.size W w') := fun W g => by
    have := with_any a n cap s t (incA (incA (havA s t) (r + 1) (-m)) (q + 1) m) ((incA_len _ _ _).trans ((incA_len _ _ _).trans hl5)) W g hC p.1 (by have := p.2.2.2; omega)
    rwa [mov_is h1 t hr m] at this
  have hbd2 := incA_bd hl5 (havA_may h1 t) (r := r + 1) (by omega) (m := -m) (by omega) q
  clear hA h1 hk p hfv hln hC
  generalize havA s t = H at *
  generalize hA9 : movA s t (r + 1) (q + 1) m = A at *
  have HFT := hide (fun p c W (g : AC W p A.length A) => fit_any p A.length c A W g)
  generalize A.length = nA at *
  clear hA9
  rcases hma : mayA A with _ | _
  · have HMY := hide hma
    clear hma
    go_enter Try.func10, Try.ntmps10
    go_upto_region 4 with (first | (go_at_call 13; refine HM.out.mono ?_; rintro e w1 ⟨rfl, hb⟩; rw [HCK.out]; have HB := hide hb; clear hb) | (go_at_call 23; refine (key11_any t _).mono ?_; rintro e w2 ⟨rfl, rfl⟩; rw [HKY.out]) | (go_at_call 24; refine (rep11_any _ _).mono ?_; rintro e w3 ⟨rfl, rfl⟩; first | rw [HR.out] | rw [HQ.out]) | (go_at_call 25; refine (amt11_any m _).mono ?_; rintro e w3 ⟨rfl, rfl⟩; rw [show amtA m = true from HAM.out]) | (go_at_call 26; refine (HHD.out _ (HV.out.below HB.out)).mono ?_; rintro e w4 ⟨rfl, hb⟩; replace HB := hide (bel_next HB.out hb); clear hb))
    have HX : Hid (BX (w4.alloc (.cells (cells5 H) 50)) w4.heap.size (cells5 H) 50) := BX.new w4 _ rfl _ _
    have HB0 : Hid (Below w.heap.size w (w4.alloc (.cells (cells5 H) 50))) := HB.out.alloc HB.out.size _
    have hgb2 : w.heap.size ≤ w4.heap.size := HB.out.size
    replace HB := HB0
    clear HB0
    unfold cells5 at HX HB
    generalize hgb : w4.heap.size = gb at *
    generalize hu : w4.alloc (.cells #[.int .i64 (atH H 0), .int .i64 (atH H 1), .int .i64 (atH H 2), .int .i64 (atH H 3), .int .i64 (atH H 4)] 50) = u at *
    clear hu hgb
    change Hid (BX u gb (cells5 H) 50) at HX
    obtain ⟨H1, hH1⟩ : ∃ H1, incA H (r + 1) (-m) = H1 := ⟨_, rfl⟩
    have hl1 : H1.length = 5 := by rw [← hH1]; exact (incA_len _ _ _).trans hl5
    rw [hH1] at HWT hbd2
    obtain ⟨H2, hH2⟩ : ∃ H2, incA H1 (q + 1) m = H2 := ⟨_, rfl⟩
    rw [hH2] at HWT
    have e0 := HX.out.cell r _ (cells5_at H hr)
    have f0 := HX.out.free r
    have hw : IntKind.i64.wrap (atH H r - m) = atH H r + -m := by
      have := hbd r
      rw [IntKind.wrap_i64]
      omega
    clear hbd
    go_upto_region 5 with fail
    have HB1 : Hid (Below w.heap.size w (u.setCell ⟨gb, r, none⟩ (.int .i64 (atH H r + -m)))) := HB.out.setCell hgb2 _
    have HX1 : Hid (BX (u.setCell ⟨gb, r, none⟩ (.int .i64 (atH H r + -m))) gb (cells5 H1) 50) := by
      have := HX.out.set r (.int .i64 (atH H r + -m))
      rw [cells5_set hl5 hr] at this
      rw [← hH1]
      exact this
    clear HB HX e0 f0 hw
    have HB := HB1
    have HX := HX1
    clear HB1 HX1
    generalize u.setCell ⟨gb, r, none⟩ (.int .i64 (atH H r + -m)) = u1 at *
    have e0 := HX.out.cell q _ (cells5_at H1 hq)
    have f0 := HX.out.free q
    have hw : IntKind.i64.wrap (atH H1 q + m) = atH H1 q + m := by
      rw [IntKind.wrap_i64]
      omega
    clear hbd2
    go_upto_region 6 with fail
    have HB1 : Hid (Below w.heap.size w (u1.setCell ⟨gb, q, none⟩ (.int .i64 (atH H1 q + m)))) := HB.out.setCell hgb2 _
    have HX1 : Hid (BX (u1.setCell ⟨gb, q, none⟩ (.int .i64 (atH H1 q + m))) gb (cells5 H2) 50) := by
      have := HX.out.set q (.int .i64 (atH H1 q + m))
      rw [cells5_set hl1 hq] at this
      rw [← hH2]
      exact this
    clear HB HX e0 f0 hw
    have HB := HB1
    have HX := HX1
    clear HB1 HX1
    generalize u1.setCell ⟨gb, q, none⟩ (.int .i64 (atH H1 q + m)) = u2 at *
    have y0 := HX.out.cell 0 _ (cells5_at H2 (by omega : 0 < 5))
    have y1 := HX.out.cell 1 _ (cells5_at H2 (by omega : 1 < 5))
    have y2 := HX.out.cell 2 _ (cells5_at H2 (by omega : 2 < 5))
    have y3 := HX.out.cell 3 _ (cells5_at H2 (by omega : 3 < 5))
    have y4 := HX.out.cell 4 _ (cells5_at H2 (by omega : 4 < 5))

    go_wp2_with (first | (go_at_call 28; refine (HWT.out _ (HV.out.below HB.out)).mono ?_; rintro e w5 ⟨p3, c3, rfl, hn3, hc3, hb⟩; have HN3 := hide hn3; have HC3 := hide hc3; replace HB := hide (bel_next HB.out hb); clear hn3 hc3 hb) | (go_at_call 27; refine (HFT.out p3 c3 _ HN3.out).mono ?_; rintro e w6 ⟨rfl, hb⟩; rw [HMY.out]; replace HN3 := hide (HN3.out.below hb); replace HB := hide (bel_next HB.out hb); clear hb))
    go_ret2
    exact ⟨rfl, HB.out⟩
  · have HMY := hide hma
    clear hma
    go_enter Try.func10, Try.ntmps10
    go_upto_region 4 with (first | (go_at_call 13; refine HM.out.mono ?_; rintro e w1 ⟨rfl, hb⟩; rw [HCK.out]; have HB := hide hb; clear hb) | (go_at_call 23; refine (key11_any t _).mono ?_; rintro e w2 ⟨rfl, rfl⟩; rw [HKY.out]) | (go_at_call 24; refine (rep11_any _ _).mono ?_; rintro e w3 ⟨rfl, rfl⟩; first | rw [HR.out] | rw [HQ.out]) | (go_at_call 25; refine (amt11_any m _).mono ?_; rintro e w3 ⟨rfl, rfl⟩; rw [show amtA m = true from HAM.out]) | (go_at_call 26; refine (HHD.out _ (HV.out.below HB.out)).mono ?_; rintro e w4 ⟨rfl, hb⟩; replace HB := hide (bel_next HB.out hb); clear hb))
    have HX : Hid (BX (w4.alloc (.cells (cells5 H) 50)) w4.heap.size (cells5 H) 50) := BX.new w4 _ rfl _ _
    have HB0 : Hid (Below w.heap.size w (w4.alloc (.cells (cells5 H) 50))) := HB.out.alloc HB.out.size _
    have hgb2 : w.heap.size ≤ w4.heap.size := HB.out.size
    replace HB := HB0
    clear HB0
    unfold cells5 at HX HB
    generalize hgb : w4.heap.size = gb at *
    generalize hu : w4.alloc (.cells #[.int .i64 (atH H 0), .int .i64 (atH H 1), .int .i64 (atH H 2), .int .i64 (atH H 3), .int .i64 (atH H 4)] 50) = u at *
    clear hu hgb
    change Hid (BX u gb (cells5 H) 50) at HX
    obtain ⟨H1, hH1⟩ : ∃ H1, incA H (r + 1) (-m) = H1 := ⟨_, rfl⟩
    have hl1 : H1.length = 5 := by rw [← hH1]; exact (incA_len _ _ _).trans hl5
    rw [hH1] at HWT hbd2
    obtain ⟨H2, hH2⟩ : ∃ H2, incA H1 (q + 1) m = H2 := ⟨_, rfl⟩
    rw [hH2] at HWT
    have e0 := HX.out.cell r _ (cells5_at H hr)
    have f0 := HX.out.free r
    have hw : IntKind.i64.wrap (atH H r - m) = atH H r + -m := by
      have := hbd r
      rw [IntKind.wrap_i64]
      omega
    clear hbd
    go_upto_region 5 with fail
    have HB1 : Hid (Below w.heap.size w (u.setCell ⟨gb, r, none⟩ (.int .i64 (atH H r + -m)))) := HB.out.setCell hgb2 _
    have HX1 : Hid (BX (u.setCell ⟨gb, r, none⟩ (.int .i64 (atH H r + -m))) gb (cells5 H1) 50) := by
      have := HX.out.set r (.int .i64 (atH H r + -m))
      rw [cells5_set hl5 hr] at this
      rw [← hH1]
      exact this
    clear HB HX e0 f0 hw
    have HB := HB1
    have HX := HX1
    clear HB1 HX1
    generalize u.setCell ⟨gb, r, none⟩ (.int .i64 (atH H r + -m)) = u1 at *
    have e0 := HX.out.cell q _ (cells5_at H1 hq)
    have f0 := HX.out.free q
    have hw : IntKind.i64.wrap (atH H1 q + m) = atH H1 q + m := by
      rw [IntKind.wrap_i64]
      omega
    clear hbd2
    go_upto_region 6 with fail
    have HB1 : Hid (Below w.heap.size w (u1.setCell ⟨gb, q, none⟩ (.int .i64 (atH H1 q + m)))) := HB.out.setCell hgb2 _
    have HX1 : Hid (BX (u1.setCell ⟨gb, q, none⟩ (.int .i64 (atH H1 q + m))) gb (cells5 H2) 50) := by
      have := HX.out.set q (.int .i64 (atH H1 q + m))
      rw [cells5_set hl1 hq] at this
      rw [← hH2]
      exact this
    clear HB HX e0 f0 hw
    have HB := HB1
    have HX := HX1
    clear HB1 HX1
    generalize u1.setCell ⟨gb, q, none⟩ (.int .i64 (atH H1 q + m)) = u2 at *
    have y0 := HX.out.cell 0 _ (cells5_at H2 (by omega : 0 < 5))
    have y1 := HX.out.cell 1 _ (cells5_at H2 (by omega : 1 < 5))
    have y2 := HX.out.cell 2 _ (cells5_at H2 (by omega : 2 < 5))
    have y3 := HX.out.cell 3 _ (cells5_at H2 (by omega : 3 < 5))
    have y4 := HX.out.cell 4 _ (cells5_at H2 (by omega : 4 < 5))

    go_wp2_with (first | (go_at_call 28; refine (HWT.out _ (HV.out.below HB.out)).mono ?_; rintro e w5 ⟨p3, c3, rfl, hn3, hc3, hb⟩; have HN3 := hide hn3; have HC3 := hide hc3; replace HB := hide (bel_next HB.out hb); clear hn3 hc3 hb) | (go_at_call 27; refine (HFT.out p3 c3 _ HN3.out).mono ?_; rintro e w6 ⟨rfl, hb⟩; rw [HMY.out]; replace HN3 := hide (HN3.out.below hb); replace HB := hide (bel_next HB.out hb); clear hb))
    go_ret2
    exact ⟨⟨p3, c3, rfl, HN3.out, HC3.out⟩, HB.out⟩
end Go.Proofs.Ytbihgcmnllajpaa
