/- Texts of this claim, joined: HQ8. -/
import Derived.Test.YtkbbegbpkndebaaGreatJ18
import Derived.Test.YtkbbegbpkndebaaGreatJ22
import Derived.Test.YtkbbegbpkndebaaGreatJ43
import Derived.Test.YtkbbegbpkndebaaGreatJ44
/- Same of layer 13 (the program). -/
namespace Go.Proofs.YtkbbegbpkndebaaGreat
open Go.RowKit Go.Lib
set_option linter.unusedVariables false
theorem sameL_step {α : Type} {s t : List α} {k : Nat} {x : α} (hx : s[k]? = some x) (hy : t[k]? = some x) (h : s.take k = t.take k) : s.take (k + 1) = t.take (k + 1) := by rw [takeG_snoc hx, takeG_snoc hy, h]
theorem sameL_no {α : Type} [DecidableEq α] {s t : List α} {k : Nat} {x y : α} (hx : s[k]? = some x) (hy : t[k]? = some y) (h : x ≠ y) : decide (s = t) = false := by
 rw [decide_eq_false_iff_not]
 intro e
 rw [e, hy] at hx
 exact h (Option.some.inj hx).symm
theorem sameL_len {α : Type} [DecidableEq α] {s t : List α} (h : s.length ≠ t.length) : decide (s = t) = false := by
 rw [decide_eq_false_iff_not]
 intro e
 exact h (by rw [e])
set_option maxHeartbeats 4000000 in
theorem equalLE (a : Option Addr) (n cap : Nat) (s : List (List En)) (a' : Option Addr) (n' cap' : Nat) (t : List (List En)) (w : World) (hA : LS NSS w a n s) (hA' : LS NSS w a' n' t) : Calls Tryz.prog 89 #[.slice a n cap, .slice a' n' cap', .func (.func 90) #[] #[]] w fun e w' => e = .returned (.bool (decide (s = t))) ∧ Below w.heap.size w w' := by
 have HV := hide hA
 have HV' := hide hA'
 have HLEN := hide (LS.len hA)
 have HLEN' := hide (LS.len hA')
 have hmx := LS.max hA
 unfold maxLen at hmx
 clear hA hA'
 by_cases hnn : n = n'
 ·subst hnn
  go_enter Tryz.func89, Tryz.ntmps89
  go_wp2
  go_loopw [17] (fun i wr => ∃ k : Nat, k ≤ n ∧ i = .int .i64 k ∧ Hid (s.take k = t.take k) ∧ Hid (Below w.heap.size w wr)) (fun i _ => n - (intOf i).toNat)
  case atStart => exact ⟨0, by omega, rfl, (show s.take 0 = t.take 0 by simp), Below.refl _ _⟩
  case round =>
   obtain ⟨k0, hk, rfl, HF, HB⟩ := hrel
   by_cases hlt : k0 < n
   ·obtain ⟨b, off, rfl⟩ := LS.addr HV.out (by omega)
    obtain ⟨b', off', rfl⟩ := LS.addr HV'.out (by omega)
    obtain ⟨px, nx, cx, lx, hx, c0, h1, _⟩ := LS.at (HV.out.below kept_ent HB.out) k0 hlt
    obtain ⟨py, ny, cy, ly, hy, d0, h2, _⟩ := LS.at (HV'.out.below kept_ent HB.out) k0 hlt
    have HX := hide hx
    have HY := hide hy
    have HS1 := hide (SameN_any px nx cx lx py ny cy ly _ h1 h2)
    have hk0 : (0 : Int) ≤ (k0 : Int) := by omega
    have hk1 : (k0 : Int) < (n : Int) := by omega
    clear hx hy h1 h2
    rcases he : decide (lx = ly) with _ | _
    ·rw [he] at HS1
     have HNO := hide (sameL_no HX.out HY.out (by rwa [decide_eq_false_iff_not] at he))
     clear he
     go_wp2_with (go_at_call 90; refine HS1.out.mono ?_; rintro e w' ⟨rfl, hb⟩)
     go_ret
     exact ⟨by rw [HNO.out]; rfl, bel_next HB.out hb⟩
    ·rw [he] at HS1
     have HF2 : Hid (s.take (k0 + 1) = t.take (k0 + 1)) := by
      rw [decide_eq_true_iff] at he
      refine sameL_step HX.out ?_ HF.out
      rw [HY.out, he]
     clear he
     go_wp2_with (go_at_call 90; refine HS1.out.mono ?_; rintro e w' ⟨rfl, hb⟩)
     go_roundw
     case rel => exact ⟨k0 + 1, by omega, by go_num, HF2, (show Hid _ from bel_next HB.out hb)⟩
     case measure => simp [intOf]; omega
   ·obtain rfl : k0 = n := by omega
    have HE : Hid (decide (s = t) = true) := by
     have h := HF.out
     rw [← HLEN.out, List.take_length, HLEN.out, ← HLEN'.out, List.take_length] at h
     exact decide_eq_true h
    clear HF
    go_wp2
    go_ret
    exact ⟨by rw [HE.out]; rfl, HB.out⟩
 ·have HNO := hide (sameL_len (s := s) (t := t) (by rw [HLEN.out, HLEN'.out]; exact hnn))
  have hn2 : ((n : Int) == (n' : Int)) = false := by rw [beq_eq_false_iff_ne]; omega
  have hn3 : ¬ ((n : Int) = (n' : Int)) := by omega
  go_enter Tryz.func89, Tryz.ntmps89
  go_wp2
  go_ret
  exact ⟨by rw [HNO.out]; rfl, Below.refl _ _⟩
set_option maxHeartbeats 4000000 in
theorem equalLC (a : Option Addr) (n cap : Nat) (s : List (List Ce)) (a' : Option Addr) (n' cap' : Nat) (t : List (List Ce)) (w : World) (hA : LS TS w a n s) (hA' : LS TS w a' n' t) : Calls Tryz.prog 91 #[.slice a n cap, .slice a' n' cap', .func (.func 92) #[] #[]] w fun e w' => e = .returned (.bool (decide (s = t))) ∧ Below w.heap.size w w' := by
 have HV := hide hA
 have HV' := hide hA'
 have HLEN := hide (LS.len hA)
 have HLEN' := hide (LS.len hA')
 have hmx := LS.max hA
 unfold maxLen at hmx
 clear hA hA'
 by_cases hnn : n = n'
 ·subst hnn
  go_enter Tryz.func91, Tryz.ntmps91
  go_wp2
  go_loopw [17] (fun i wr => ∃ k : Nat, k ≤ n ∧ i = .int .i64 k ∧ Hid (s.take k = t.take k) ∧ Hid (Below w.heap.size w wr)) (fun i _ => n - (intOf i).toNat)
  case atStart => exact ⟨0, by omega, rfl, (show s.take 0 = t.take 0 by simp), Below.refl _ _⟩
  case round =>
   obtain ⟨k0, hk, rfl, HF, HB⟩ := hrel
   by_cases hlt : k0 < n
   ·obtain ⟨b, off, rfl⟩ := LS.addr HV.out (by omega)
    obtain ⟨b', off', rfl⟩ := LS.addr HV'.out (by omega)
    obtain ⟨px, nx, cx, lx, hx, c0, h1, _⟩ := LS.at (HV.out.below kept_cel HB.out) k0 hlt
    obtain ⟨py, ny, cy, ly, hy, d0, h2, _⟩ := LS.at (HV'.out.below kept_cel HB.out) k0 hlt
    have HX := hide hx
    have HY := hide hy
    have HS1 := hide (Same10_any px nx cx lx py ny cy ly _ h1 h2)
    have hk0 : (0 : Int) ≤ (k0 : Int) := by omega
    have hk1 : (k0 : Int) < (n : Int) := by omega
    clear hx hy h1 h2
    rcases he : decide (lx = ly) with _ | _
    ·rw [he] at HS1
     have HNO := hide (sameL_no HX.out HY.out (by rwa [decide_eq_false_iff_not] at he))
     clear he
     go_wp2_with (go_at_call 92; refine HS1.out.mono ?_; rintro e w' ⟨rfl, hb⟩)
     go_ret
     exact ⟨by rw [HNO.out]; rfl, bel_next HB.out hb⟩
    ·rw [he] at HS1
     have HF2 : Hid (s.take (k0 + 1) = t.take (k0 + 1)) := by
      rw [decide_eq_true_iff] at he
      refine sameL_step HX.out ?_ HF.out
      rw [HY.out, he]
     clear he
     go_wp2_with (go_at_call 92; refine HS1.out.mono ?_; rintro e w' ⟨rfl, hb⟩)
     go_roundw
     case rel => exact ⟨k0 + 1, by omega, by go_num, HF2, (show Hid _ from bel_next HB.out hb)⟩
     case measure => simp [intOf]; omega
   ·obtain rfl : k0 = n := by omega
    have HE : Hid (decide (s = t) = true) := by
     have h := HF.out
     rw [← HLEN.out, List.take_length, HLEN.out, ← HLEN'.out, List.take_length] at h
     exact decide_eq_true h
    clear HF
    go_wp2
    go_ret
    exact ⟨by rw [HE.out]; rfl, HB.out⟩
 ·have HNO := hide (sameL_len (s := s) (t := t) (by rw [HLEN.out, HLEN'.out]; exact hnn))
  have hn2 : ((n : Int) == (n' : Int)) = false := by rw [beq_eq_false_iff_ne]; omega
  have hn3 : ¬ ((n : Int) = (n' : Int)) := by omega
  go_enter Tryz.func91, Tryz.ntmps91
  go_wp2
  go_ret
  exact ⟨by rw [HNO.out]; rfl, Below.refl _ _⟩
set_option maxHeartbeats 4000000 in
theorem equalLA (a : Option Addr) (n cap : Nat) (s : List (List Ac)) (a' : Option Addr) (n' cap' : Nat) (t : List (List Ac)) (w : World) (hA : LS AC w a n s) (hA' : LS AC w a' n' t) : Calls Tryz.prog 93 #[.slice a n cap, .slice a' n' cap', .func (.func 94) #[] #[]] w fun e w' => e = .returned (.bool (decide (s = t))) ∧ Below w.heap.size w w' := by
 have HV := hide hA
 have HV' := hide hA'
 have HLEN := hide (LS.len hA)
 have HLEN' := hide (LS.len hA')
 have hmx := LS.max hA
 unfold maxLen at hmx
 clear hA hA'
 by_cases hnn : n = n'
 ·subst hnn
  go_enter Tryz.func93, Tryz.ntmps93
  go_wp2
  go_loopw [17] (fun i wr => ∃ k : Nat, k ≤ n ∧ i = .int .i64 k ∧ Hid (s.take k = t.take k) ∧ Hid (Below w.heap.size w wr)) (fun i _ => n - (intOf i).toNat)
  case atStart => exact ⟨0, by omega, rfl, (show s.take 0 = t.take 0 by simp), Below.refl _ _⟩
  case round =>
   obtain ⟨k0, hk, rfl, HF, HB⟩ := hrel
   by_cases hlt : k0 < n
   ·obtain ⟨b, off, rfl⟩ := LS.addr HV.out (by omega)
    obtain ⟨b', off', rfl⟩ := LS.addr HV'.out (by omega)
    obtain ⟨px, nx, cx, lx, hx, c0, h1, _⟩ := LS.at (HV.out.below kept_acc HB.out) k0 hlt
    obtain ⟨py, ny, cy, ly, hy, d0, h2, _⟩ := LS.at (HV'.out.below kept_acc HB.out) k0 hlt
    have HX := hide hx
    have HY := hide hy
    have HS1 := hide (Same11_any px nx cx lx py ny cy ly _ h1 h2)
    have hk0 : (0 : Int) ≤ (k0 : Int) := by omega
    have hk1 : (k0 : Int) < (n : Int) := by omega
    clear hx hy h1 h2
    rcases he : decide (lx = ly) with _ | _
    ·rw [he] at HS1
     have HNO := hide (sameL_no HX.out HY.out (by rwa [decide_eq_false_iff_not] at he))
     clear he
     go_wp2_with (go_at_call 94; refine HS1.out.mono ?_; rintro e w' ⟨rfl, hb⟩)
     go_ret
     exact ⟨by rw [HNO.out]; rfl, bel_next HB.out hb⟩
    ·rw [he] at HS1
     have HF2 : Hid (s.take (k0 + 1) = t.take (k0 + 1)) := by
      rw [decide_eq_true_iff] at he
      refine sameL_step HX.out ?_ HF.out
      rw [HY.out, he]
     clear he
     go_wp2_with (go_at_call 94; refine HS1.out.mono ?_; rintro e w' ⟨rfl, hb⟩)
     go_roundw
     case rel => exact ⟨k0 + 1, by omega, by go_num, HF2, (show Hid _ from bel_next HB.out hb)⟩
     case measure => simp [intOf]; omega
   ·obtain rfl : k0 = n := by omega
    have HE : Hid (decide (s = t) = true) := by
     have h := HF.out
     rw [← HLEN.out, List.take_length, HLEN.out, ← HLEN'.out, List.take_length] at h
     exact decide_eq_true h
    clear HF
    go_wp2
    go_ret
    exact ⟨by rw [HE.out]; rfl, HB.out⟩
 ·have HNO := hide (sameL_len (s := s) (t := t) (by rw [HLEN.out, HLEN'.out]; exact hnn))
  have hn2 : ((n : Int) == (n' : Int)) = false := by rw [beq_eq_false_iff_ne]; omega
  have hn3 : ¬ ((n : Int) = (n' : Int)) := by omega
  go_enter Tryz.func93, Tryz.ntmps93
  go_wp2
  go_ret
  exact ⟨by rw [HNO.out]; rfl, Below.refl _ _⟩
set_option maxHeartbeats 4000000 in
theorem equalLN (a : Option Addr) (n cap : Nat) (s : List (List Nt)) (a' : Option Addr) (n' cap' : Nat) (t : List (List Nt)) (w : World) (hA : LS NN w a n s) (hA' : LS NN w a' n' t) : Calls Tryz.prog 95 #[.slice a n cap, .slice a' n' cap', .func (.func 96) #[] #[]] w fun e w' => e = .returned (.bool (decide (s = t))) ∧ Below w.heap.size w w' := by
 have HV := hide hA
 have HV' := hide hA'
 have HLEN := hide (LS.len hA)
 have HLEN' := hide (LS.len hA')
 have hmx := LS.max hA
 unfold maxLen at hmx
 clear hA hA'
 by_cases hnn : n = n'
 ·subst hnn
  go_enter Tryz.func95, Tryz.ntmps95
  go_wp2
  go_loopw [17] (fun i wr => ∃ k : Nat, k ≤ n ∧ i = .int .i64 k ∧ Hid (s.take k = t.take k) ∧ Hid (Below w.heap.size w wr)) (fun i _ => n - (intOf i).toNat)
  case atStart => exact ⟨0, by omega, rfl, (show s.take 0 = t.take 0 by simp), Below.refl _ _⟩
  case round =>
   obtain ⟨k0, hk, rfl, HF, HB⟩ := hrel
   by_cases hlt : k0 < n
   ·obtain ⟨b, off, rfl⟩ := LS.addr HV.out (by omega)
    obtain ⟨b', off', rfl⟩ := LS.addr HV'.out (by omega)
    obtain ⟨px, nx, cx, lx, hx, c0, h1, _⟩ := LS.at (HV.out.below kept_not HB.out) k0 hlt
    obtain ⟨py, ny, cy, ly, hy, d0, h2, _⟩ := LS.at (HV'.out.below kept_not HB.out) k0 hlt
    have HX := hide hx
    have HY := hide hy
    have HS1 := hide (Same12_any px nx cx lx py ny cy ly _ h1 h2)
    have hk0 : (0 : Int) ≤ (k0 : Int) := by omega
    have hk1 : (k0 : Int) < (n : Int) := by omega
    clear hx hy h1 h2
    rcases he : decide (lx = ly) with _ | _
    ·rw [he] at HS1
     have HNO := hide (sameL_no HX.out HY.out (by rwa [decide_eq_false_iff_not] at he))
     clear he
     go_wp2_with (go_at_call 96; refine HS1.out.mono ?_; rintro e w' ⟨rfl, hb⟩)
     go_ret
     exact ⟨by rw [HNO.out]; rfl, bel_next HB.out hb⟩
    ·rw [he] at HS1
     have HF2 : Hid (s.take (k0 + 1) = t.take (k0 + 1)) := by
      rw [decide_eq_true_iff] at he
      refine sameL_step HX.out ?_ HF.out
      rw [HY.out, he]
     clear he
     go_wp2_with (go_at_call 96; refine HS1.out.mono ?_; rintro e w' ⟨rfl, hb⟩)
     go_roundw
     case rel => exact ⟨k0 + 1, by omega, by go_num, HF2, (show Hid _ from bel_next HB.out hb)⟩
     case measure => simp [intOf]; omega
   ·obtain rfl : k0 = n := by omega
    have HE : Hid (decide (s = t) = true) := by
     have h := HF.out
     rw [← HLEN.out, List.take_length, HLEN.out, ← HLEN'.out, List.take_length] at h
     exact decide_eq_true h
    clear HF
    go_wp2
    go_ret
    exact ⟨by rw [HE.out]; rfl, HB.out⟩
 ·have HNO := hide (sameL_len (s := s) (t := t) (by rw [HLEN.out, HLEN'.out]; exact hnn))
  have hn2 : ((n : Int) == (n' : Int)) = false := by rw [beq_eq_false_iff_ne]; omega
  have hn3 : ¬ ((n : Int) = (n' : Int)) := by omega
  go_enter Tryz.func95, Tryz.ntmps95
  go_wp2
  go_ret
  exact ⟨by rw [HNO.out]; rfl, Below.refl _ _⟩
set_option maxHeartbeats 8000000 in
theorem Same13_any (p1 : Option Addr) (n1 c1 : Nat) (p2 : Option Addr) (n2 c2 : Nat) (p3 : Option Addr) (n3 c3 : Nat) (p4 : Option Addr) (n4 c4 : Nat) (q1 : Option Addr) (m1 d1 : Nat) (q2 : Option Addr) (m2 d2 : Nat) (q3 : Option Addr) (m3 d3 : Nat) (q4 : Option Addr) (m4 d4 : Nat) (r q : Rw) (w : World) (hR : RM w p1 n1 c1 p2 n2 c2 p3 n3 c3 p4 n4 c4 r) (hQ : RM w q1 m1 d1 q2 m2 d2 q3 m3 d3 q4 m4 d4 q) : Calls Tryz.prog 25 #[.agg #[.slice p1 n1 c1, .slice p2 n2 c2, .slice p3 n3 c3, .slice p4 n4 c4], .agg #[.slice q1 m1 d1, .slice q2 m2 d2, .slice q3 m3 d3, .slice q4 m4 d4]] w fun e w' => e = .returned (.bool (sameW r q)) ∧ Below w.heap.size w w' := by
 have HR := hide hR
 have HQ := hide hQ
 have HB : Hid (Below w.heap.size w ((w.alloc (.cells #[.slice p1 n1 c1, .slice p2 n2 c2, .slice p3 n3 c3, .slice p4 n4 c4] 31)).alloc (.cells #[.slice q1 m1 d1, .slice q2 m2 d2, .slice q3 m3 d3, .slice q4 m4 d4] 31))) := bel2 w _ _
 have HBR : Hid (BX ((w.alloc (.cells #[.slice p1 n1 c1, .slice p2 n2 c2, .slice p3 n3 c3, .slice p4 n4 c4] 31)).alloc (.cells #[.slice q1 m1 d1, .slice q2 m2 d2, .slice q3 m3 d3, .slice q4 m4 d4] 31)) w.heap.size #[.slice p1 n1 c1, .slice p2 n2 c2, .slice p3 n3 c3, .slice p4 n4 c4] 31) := (BX.new w _ rfl _ _).alloc _
 have HBQ : Hid (BX ((w.alloc (.cells #[.slice p1 n1 c1, .slice p2 n2 c2, .slice p3 n3 c3, .slice p4 n4 c4] 31)).alloc (.cells #[.slice q1 m1 d1, .slice q2 m2 d2, .slice q3 m3 d3, .slice q4 m4 d4] 31)) (w.heap.size + 1) #[.slice q1 m1 d1, .slice q2 m2 d2, .slice q3 m3 d3, .slice q4 m4 d4] 31) := BX.new _ _ (by simp) _ _
 clear hR hQ
 go_enter Tryz.func25, Tryz.ntmps25
 go_upto_region 1 with fail
 generalize ((w.alloc (.cells #[.slice p1 n1 c1, .slice p2 n2 c2, .slice p3 n3 c3, .slice p4 n4 c4] 31)).alloc (.cells #[.slice q1 m1 d1, .slice q2 m2 d2, .slice q3 m3 d3, .slice q4 m4 d4] 31)) = u at *
 have a0 := HBR.out.cell 0 _ rfl
 have b0 := HBQ.out.cell 0 _ rfl
 have a1 := HBR.out.cell 1 _ rfl
 have b1 := HBQ.out.cell 1 _ rfl
 have a2 := HBR.out.cell 2 _ rfl
 have b2 := HBQ.out.cell 2 _ rfl
 have a3 := HBR.out.cell 3 _ rfl
 have b3 := HBQ.out.cell 3 _ rfl
 rcases h0 : decide (r.1 = q.1) with _ | _
 ·have D0 := hide h0
  clear h0
  have HSA : Hid (sameW r q = false) := by unfold Hid sameW; rw [D0.out]; simp
  go_wp2_with (first | (go_at_call 89; refine (equalLE _ _ _ r.1 _ _ _ q.1 _ (HR.out.below HB.out).s (HQ.out.below HB.out).s).mono ?_; rintro e w0 ⟨rfl, hb⟩; rw [D0.out]; replace HB := hide (bel_next HB.out hb); (try replace a0 := bcell hb a0); (try replace a1 := bcell hb a1); (try replace a2 := bcell hb a2); (try replace a3 := bcell hb a3); (try replace b0 := bcell hb b0); (try replace b1 := bcell hb b1); (try replace b2 := bcell hb b2); (try replace b3 := bcell hb b3); clear hb))
  go_ret
  exact ⟨by rw [HSA.out]; rfl, HB.out⟩
 ·have D0 := hide h0
  clear h0
  rcases h1 : decide (r.2.1 = q.2.1) with _ | _
  ·have D1 := hide h1
   clear h1
   have HSA : Hid (sameW r q = false) := by unfold Hid sameW; rw [D0.out, D1.out]; simp
   go_wp2_with (first | (go_at_call 89; refine (equalLE _ _ _ r.1 _ _ _ q.1 _ (HR.out.below HB.out).s (HQ.out.below HB.out).s).mono ?_; rintro e w0 ⟨rfl, hb⟩; rw [D0.out]; replace HB := hide (bel_next HB.out hb); (try replace a0 := bcell hb a0); (try replace a1 := bcell hb a1); (try replace a2 := bcell hb a2); (try replace a3 := bcell hb a3); (try replace b0 := bcell hb b0); (try replace b1 := bcell hb b1); (try replace b2 := bcell hb b2); (try replace b3 := bcell hb b3); clear hb) | (go_at_call 91; refine (equalLC _ _ _ r.2.1 _ _ _ q.2.1 _ (HR.out.below HB.out).t (HQ.out.below HB.out).t).mono ?_; rintro e w1 ⟨rfl, hb⟩; rw [D1.out]; replace HB := hide (bel_next HB.out hb); (try replace a0 := bcell hb a0); (try replace a1 := bcell hb a1); (try replace a2 := bcell hb a2); (try replace a3 := bcell hb a3); (try replace b0 := bcell hb b0); (try replace b1 := bcell hb b1); (try replace b2 := bcell hb b2); (try replace b3 := bcell hb b3); clear hb))
   go_ret
   exact ⟨by rw [HSA.out]; rfl, HB.out⟩
  ·have D1 := hide h1
   clear h1
   rcases h2 : decide (r.2.2.1 = q.2.2.1) with _ | _
   ·have D2 := hide h2
    clear h2
    have HSA : Hid (sameW r q = false) := by unfold Hid sameW; rw [D0.out, D1.out, D2.out]; simp
    go_wp2_with (first | (go_at_call 89; refine (equalLE _ _ _ r.1 _ _ _ q.1 _ (HR.out.below HB.out).s (HQ.out.below HB.out).s).mono ?_; rintro e w0 ⟨rfl, hb⟩; rw [D0.out]; replace HB := hide (bel_next HB.out hb); (try replace a0 := bcell hb a0); (try replace a1 := bcell hb a1); (try replace a2 := bcell hb a2); (try replace a3 := bcell hb a3); (try replace b0 := bcell hb b0); (try replace b1 := bcell hb b1); (try replace b2 := bcell hb b2); (try replace b3 := bcell hb b3); clear hb) | (go_at_call 91; refine (equalLC _ _ _ r.2.1 _ _ _ q.2.1 _ (HR.out.below HB.out).t (HQ.out.below HB.out).t).mono ?_; rintro e w1 ⟨rfl, hb⟩; rw [D1.out]; replace HB := hide (bel_next HB.out hb); (try replace a0 := bcell hb a0); (try replace a1 := bcell hb a1); (try replace a2 := bcell hb a2); (try replace a3 := bcell hb a3); (try replace b0 := bcell hb b0); (try replace b1 := bcell hb b1); (try replace b2 := bcell hb b2); (try replace b3 := bcell hb b3); clear hb) | (go_at_call 93; refine (equalLA _ _ _ r.2.2.1 _ _ _ q.2.2.1 _ (HR.out.below HB.out).a (HQ.out.below HB.out).a).mono ?_; rintro e w2 ⟨rfl, hb⟩; rw [D2.out]; replace HB := hide (bel_next HB.out hb); (try replace a0 := bcell hb a0); (try replace a1 := bcell hb a1); (try replace a2 := bcell hb a2); (try replace a3 := bcell hb a3); (try replace b0 := bcell hb b0); (try replace b1 := bcell hb b1); (try replace b2 := bcell hb b2); (try replace b3 := bcell hb b3); clear hb))
    go_ret
    exact ⟨by rw [HSA.out]; rfl, HB.out⟩
   ·have D2 := hide h2
    clear h2
    rcases h3 : decide (r.2.2.2 = q.2.2.2) with _ | _
    ·have D3 := hide h3
     clear h3
     have HSA : Hid (sameW r q = false) := by unfold Hid sameW; rw [D0.out, D1.out, D2.out, D3.out]; simp
     go_wp2_with (first | (go_at_call 89; refine (equalLE _ _ _ r.1 _ _ _ q.1 _ (HR.out.below HB.out).s (HQ.out.below HB.out).s).mono ?_; rintro e w0 ⟨rfl, hb⟩; rw [D0.out]; replace HB := hide (bel_next HB.out hb); (try replace a0 := bcell hb a0); (try replace a1 := bcell hb a1); (try replace a2 := bcell hb a2); (try replace a3 := bcell hb a3); (try replace b0 := bcell hb b0); (try replace b1 := bcell hb b1); (try replace b2 := bcell hb b2); (try replace b3 := bcell hb b3); clear hb) | (go_at_call 91; refine (equalLC _ _ _ r.2.1 _ _ _ q.2.1 _ (HR.out.below HB.out).t (HQ.out.below HB.out).t).mono ?_; rintro e w1 ⟨rfl, hb⟩; rw [D1.out]; replace HB := hide (bel_next HB.out hb); (try replace a0 := bcell hb a0); (try replace a1 := bcell hb a1); (try replace a2 := bcell hb a2); (try replace a3 := bcell hb a3); (try replace b0 := bcell hb b0); (try replace b1 := bcell hb b1); (try replace b2 := bcell hb b2); (try replace b3 := bcell hb b3); clear hb) | (go_at_call 93; refine (equalLA _ _ _ r.2.2.1 _ _ _ q.2.2.1 _ (HR.out.below HB.out).a (HQ.out.below HB.out).a).mono ?_; rintro e w2 ⟨rfl, hb⟩; rw [D2.out]; replace HB := hide (bel_next HB.out hb); (try replace a0 := bcell hb a0); (try replace a1 := bcell hb a1); (try replace a2 := bcell hb a2); (try replace a3 := bcell hb a3); (try replace b0 := bcell hb b0); (try replace b1 := bcell hb b1); (try replace b2 := bcell hb b2); (try replace b3 := bcell hb b3); clear hb) | (go_at_call 95; refine (equalLN _ _ _ r.2.2.2 _ _ _ q.2.2.2 _ (HR.out.below HB.out).g (HQ.out.below HB.out).g).mono ?_; rintro e w3 ⟨rfl, hb⟩; rw [D3.out]; replace HB := hide (bel_next HB.out hb); (try replace a0 := bcell hb a0); (try replace a1 := bcell hb a1); (try replace a2 := bcell hb a2); (try replace a3 := bcell hb a3); (try replace b0 := bcell hb b0); (try replace b1 := bcell hb b1); (try replace b2 := bcell hb b2); (try replace b3 := bcell hb b3); clear hb))
     go_ret
     exact ⟨by rw [HSA.out]; rfl, HB.out⟩
    ·have D3 := hide h3
     clear h3
     have HSA : Hid (sameW r q = true) := by unfold Hid sameW; rw [D0.out, D1.out, D2.out, D3.out]; rfl
     go_wp2_with (first | (go_at_call 89; refine (equalLE _ _ _ r.1 _ _ _ q.1 _ (HR.out.below HB.out).s (HQ.out.below HB.out).s).mono ?_; rintro e w0 ⟨rfl, hb⟩; rw [D0.out]; replace HB := hide (bel_next HB.out hb); (try replace a0 := bcell hb a0); (try replace a1 := bcell hb a1); (try replace a2 := bcell hb a2); (try replace a3 := bcell hb a3); (try replace b0 := bcell hb b0); (try replace b1 := bcell hb b1); (try replace b2 := bcell hb b2); (try replace b3 := bcell hb b3); clear hb) | (go_at_call 91; refine (equalLC _ _ _ r.2.1 _ _ _ q.2.1 _ (HR.out.below HB.out).t (HQ.out.below HB.out).t).mono ?_; rintro e w1 ⟨rfl, hb⟩; rw [D1.out]; replace HB := hide (bel_next HB.out hb); (try replace a0 := bcell hb a0); (try replace a1 := bcell hb a1); (try replace a2 := bcell hb a2); (try replace a3 := bcell hb a3); (try replace b0 := bcell hb b0); (try replace b1 := bcell hb b1); (try replace b2 := bcell hb b2); (try replace b3 := bcell hb b3); clear hb) | (go_at_call 93; refine (equalLA _ _ _ r.2.2.1 _ _ _ q.2.2.1 _ (HR.out.below HB.out).a (HQ.out.below HB.out).a).mono ?_; rintro e w2 ⟨rfl, hb⟩; rw [D2.out]; replace HB := hide (bel_next HB.out hb); (try replace a0 := bcell hb a0); (try replace a1 := bcell hb a1); (try replace a2 := bcell hb a2); (try replace a3 := bcell hb a3); (try replace b0 := bcell hb b0); (try replace b1 := bcell hb b1); (try replace b2 := bcell hb b2); (try replace b3 := bcell hb b3); clear hb) | (go_at_call 95; refine (equalLN _ _ _ r.2.2.2 _ _ _ q.2.2.2 _ (HR.out.below HB.out).g (HQ.out.below HB.out).g).mono ?_; rintro e w3 ⟨rfl, hb⟩; rw [D3.out]; replace HB := hide (bel_next HB.out hb); (try replace a0 := bcell hb a0); (try replace a1 := bcell hb a1); (try replace a2 := bcell hb a2); (try replace a3 := bcell hb a3); (try replace b0 := bcell hb b0); (try replace b1 := bcell hb b1); (try replace b2 := bcell hb b2); (try replace b3 := bcell hb b3); clear hb))
     go_ret
     exact ⟨by rw [HSA.out]; rfl, HB.out⟩
end Go.Proofs.YtkbbegbpkndebaaGreat

