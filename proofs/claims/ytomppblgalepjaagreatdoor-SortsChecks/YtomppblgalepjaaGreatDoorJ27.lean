/- Texts of this claim, joined: T1. -/
import Derived.Test.YtomppblgalepjaaGreatDoorJ13
import Derived.Test.YtomppblgalepjaaGreatDoorJ2
/- What the document says of rules (layer 16): numbers within, sorts, places, clauses. -/
namespace Go.Proofs.YtomppblgalepjaaGreatDoor
open Go.RowKit Go.Lib
set_option linter.unusedVariables false
def encCl (x : Cl) : List Value := [.int .i64 x.1, .bool x.2.1, .int .i64 x.2.2.1, .int .i64 x.2.2.2.1, .int .i64 x.2.2.2.2]
theorem encCl_len (x : Cl) : (encCl x).length = 5 := rfl
theorem encCl_one (x : Cl) : ∀ v ∈ encCl x, v.oneCell' = true := fun v hv => by
 simp only [encCl, List.mem_cons, List.not_mem_nil, or_false] at hv
 rcases hv with rfl | rfl | rfl | rfl | rfl <;> rfl
def encDg (x : Dg) : List Value := [.int .i64 x.1, .int .i64 x.2.1, .int .i64 x.2.2]
theorem encDg_len (x : Dg) : (encDg x).length = 3 := rfl
theorem encSt_one (x : ByteArray) : ∀ v ∈ encSt x, v.oneCell' = true := fun v hv => by
 simp only [encSt, List.mem_cons, List.not_mem_nil, or_false] at hv
 rcases hv with rfl
 rfl
theorem rs_cells {α : Type} {enc : α → List Value} {k : Nat} {w : World} {a : Option Addr} {n : Nat} {l : List α} (h : RS enc k w a n l) (h0 : 0 < n) : ∃ b off, a = some ⟨b, off, none⟩ ∧ ∀ (i : Nat) (x : α), l[i]? = some x → ∀ (j : Nat) v, (enc x)[j]? = some v → w.cell? ⟨b, off + i * k + j, none⟩ = some v := by
 rcases h.2.2 with hz | ⟨b, off, ha, hc⟩
 ·omega
 ·exact ⟨b, off, ha, hc⟩
theorem in16 (n many : Int) (w : World) : Calls Tryz.prog 42 #[.int .i64 n, .int .i64 many] w fun e w' => e = .returned (.bool (inR n many)) ∧ w' = w := by
 unfold inR
 by_cases h1 : 0 ≤ n
 ·by_cases h2 : n < many
  ·rw [decide_eq_true ⟨h1, h2⟩]
   go_enter Tryz.func42, Tryz.ntmps42
   go_wp2
   go_ret
   exact ⟨rfl, rfl⟩
  ·rw [decide_eq_false (fun h => h2 h.2)]
   go_enter Tryz.func42, Tryz.ntmps42
   go_wp2
   go_ret
   exact ⟨rfl, rfl⟩
 ·rw [decide_eq_false (fun h => h1 h.1)]
  go_enter Tryz.func42, Tryz.ntmps42
  go_wp2
  go_ret
  exact ⟨rfl, rfl⟩
set_option maxHeartbeats 4000000 in
theorem Sort16 (k : Int) (w : World) : Calls Tryz.prog 21 #[.int .i64 k] w fun e w' => e = .returned (.int .i64 (srt k)) ∧ w' = w := by
 by_cases h1 : k = 1
 ·subst h1
  go_enter Tryz.func21, Tryz.ntmps21
  go_wp2
  go_ret
  exact ⟨rfl, rfl⟩
 by_cases h2 : k = 2
 ·subst h2
  go_enter Tryz.func21, Tryz.ntmps21
  go_wp2
  go_ret
  exact ⟨rfl, rfl⟩
 by_cases h3 : k = 3
 ·subst h3
  go_enter Tryz.func21, Tryz.ntmps21
  go_wp2
  go_ret
  exact ⟨rfl, rfl⟩
 by_cases h4 : k = 4
 ·subst h4
  go_enter Tryz.func21, Tryz.ntmps21
  go_wp2
  go_ret
  exact ⟨rfl, rfl⟩
 by_cases h6 : k = 6
 ·subst h6
  go_enter Tryz.func21, Tryz.ntmps21
  go_wp2
  go_ret
  exact ⟨rfl, rfl⟩
 have b1 : (k == 1) = false := by simpa using h1
 have b2 : (k == 2) = false := by simpa using h2
 have b3 : (k == 3) = false := by simpa using h3
 have b4 : (k == 4) = false := by simpa using h4
 have b6 : (k == 6) = false := by simpa using h6
 have e : srt k = 0 := by unfold srt; rw [if_neg (by omega), if_neg (by omega), if_neg h6]
 rw [e]
 clear e h1 h2 h3 h4 h6
 go_enter Tryz.func21, Tryz.ntmps21
 go_wp2
 go_ret
 exact ⟨rfl, rfl⟩
theorem atF_at {l : List ByteArray} {i : Nat} {x s : ByteArray} (h : l[i]? = some x) : atF s i (l.drop i) = if x = s then (i : Int) else atF s (i + 1) (l.drop (i + 1)) := by
 obtain ⟨hi, rfl⟩ := List.getElem?_eq_some_iff.1 h
 rw [List.drop_eq_getElem_cons hi]
 rfl
set_option maxHeartbeats 4000000 in
theorem At16 (a : Option Addr) (n cap : Nat) (l : List ByteArray) (s : ByteArray) (w : World) (hA : RS encSt 1 w a n l) (hn : n ≤ 100000) : Calls Tryz.prog 20 #[.slice a n cap, .string s] w fun e w' => e = .returned (.int .i64 (atL l s)) ∧ w' = w := by
 have HA := hide hA
 have hln : l.length = n := hA.1
 clear hA
 go_enter Tryz.func20, Tryz.ntmps20
 go_wp2
 go_loopw [5] (fun v wr => ∃ i : Nat, i ≤ n ∧ v = .int .i64 i ∧ Hid (atF s i (l.drop i) = atL l s) ∧ wr = w) (fun v _ => n - (RowKit.intOf v).toNat)
 case atStart => exact ⟨0, by omega, rfl, rfl, rfl⟩
 case round =>
  obtain ⟨i, hi, rfl, HF, hww⟩ := hrel
  have hww2 := hww.symm
  subst hww2
  clear hww
  by_cases hlt : i < n
  ·have hi0 : (0 : Int) ≤ (i : Int) := by omega
   have hi1 : (i : Int) < (n : Int) := by omega
   have hx : l[i]? = some (l[i]'(by omega)) := List.getElem?_eq_getElem (by omega)
   generalize l[i]'(by omega) = x at hx
   obtain ⟨b, off, rfl, hcc⟩ := rs_cells HA.out (by omega)
   have c0 := hcc i x hx 0 _ rfl
   simp only [Nat.mul_one, Nat.add_zero] at c0
   clear hcc
   have hs := atF_at (s := s) hx
   have hq := eqK x s
   clear hx hln
   by_cases he : x = s
   ·subst he
    rw [decide_eq_true rfl] at hq
    rw [if_pos rfl] at hs
    have HK : Hid (atL l x = (i : Int)) := by unfold Hid; rw [← HF.out, hs]
    clear hs HF
    go_wp2
    go_ret
    exact ⟨by rw [HK.out]; rfl, rfl⟩
   ·rw [if_neg he] at hs
    have HK : Hid (atF s (i + 1) (l.drop (i + 1)) = atL l s) := by unfold Hid; rw [← hs]; exact HF.out
    rw [decide_eq_false he] at hq
    clear hs he HF
    go_wp2
    go_roundw
    case rel => exact ⟨i + 1, by omega, by go_num, HK, by trivial⟩
    case measure => simp [RowKit.intOf]; omega
  ·obtain rfl : i = n := by omega
   have HK : Hid (atL l s = -1) := by
    have := HF.out
    rw [List.drop_eq_nil_of_le (by omega)] at this
    exact this.symm
   clear hln HF
   go_wp2
   go_ret
   exact ⟨by rw [HK.out]; rfl, rfl⟩
set_option maxHeartbeats 4000000 in
theorem Clause16 {a1 a2 a3 a4 a5 : Option Addr} {n1 n2 n3 n4 n5 c1 c2 c3 c4 c5 : Nat} (kd : Int) (st : Bool) (ca cb cn : Int) (w : World) : Calls Tryz.prog 23 #[.agg #[.slice a1 n1 c1, .slice a2 n2 c2, .slice a3 n3 c3, .slice a4 n4 c4, .slice a5 n5 c5], .agg #[.int .i64 kd, .bool st, .int .i64 ca, .int .i64 cb, .int .i64 cn]] w fun e w' => e = .returned (.bool (clB n1 n2 (kd, st, ca, cb, cn))) ∧ Below w.heap.size w w' := by
 have b0 := bel1 w (.cells #[.slice a1 n1 c1, .slice a2 n2 c2, .slice a3 n3 c3, .slice a4 n4 c4, .slice a5 n5 c5] 29)
 have b1 := bel1 (w.alloc (.cells #[.slice a1 n1 c1, .slice a2 n2 c2, .slice a3 n3 c3, .slice a4 n4 c4, .slice a5 n5 c5] 29)) (.cells #[.int .i64 kd, .bool st, .int .i64 ca, .int .i64 cb, .int .i64 cn] 43)
 have hsz : (w.alloc (.cells #[.slice a1 n1 c1, .slice a2 n2 c2, .slice a3 n3 c3, .slice a4 n4 c4, .slice a5 n5 c5] 29)).heap.size = w.heap.size + 1 := by first | rfl | simp
 have HP : Hid (BX ((w.alloc (.cells #[.slice a1 n1 c1, .slice a2 n2 c2, .slice a3 n3 c3, .slice a4 n4 c4, .slice a5 n5 c5] 29)).alloc (.cells #[.int .i64 kd, .bool st, .int .i64 ca, .int .i64 cb, .int .i64 cn] 43)) w.heap.size #[.slice a1 n1 c1, .slice a2 n2 c2, .slice a3 n3 c3, .slice a4 n4 c4, .slice a5 n5 c5] 29) := (BX.new w _ rfl _ _).below b1
 have HC : Hid (BX ((w.alloc (.cells #[.slice a1 n1 c1, .slice a2 n2 c2, .slice a3 n3 c3, .slice a4 n4 c4, .slice a5 n5 c5] 29)).alloc (.cells #[.int .i64 kd, .bool st, .int .i64 ca, .int .i64 cb, .int .i64 cn] 43)) (w.heap.size + 1) #[.int .i64 kd, .bool st, .int .i64 ca, .int .i64 cb, .int .i64 cn] 43) := BX.new (w.alloc (.cells #[.slice a1 n1 c1, .slice a2 n2 c2, .slice a3 n3 c3, .slice a4 n4 c4, .slice a5 n5 c5] 29)) _ hsz.symm _ _
 have HB := hide (bel_next b0 b1)
 clear b0 b1 hsz
 obtain ⟨BV, hBV⟩ : ∃ b, clB n1 n2 (kd, st, ca, cb, cn) = b := ⟨_, rfl⟩
 rw [hBV]
 have HBV := hide hBV
 clear hBV
 go_enter Tryz.func23, Tryz.ntmps23
 go_upto_region 1 with fail
 generalize (w.alloc (.cells #[.slice a1 n1 c1, .slice a2 n2 c2, .slice a3 n3 c3, .slice a4 n4 c4, .slice a5 n5 c5] 29)).alloc (.cells #[.int .i64 kd, .bool st, .int .i64 ca, .int .i64 cb, .int .i64 cn] 43) = w1 at *
 have p0 := HP.out.cell 0 _ rfl
 have p1 := HP.out.cell 1 _ rfl
 go_region
 replace HB := hide HB.out.drew
 replace HC := hide (HC.out.below (Below.refl _ w1).drew)
 clear p0 p1 HP
 generalize w1.drew = w2 at *
 have t0 := HC.out.cell 0 _ rfl
 have t1 := HC.out.cell 1 _ rfl
 have t2 := HC.out.cell 2 _ rfl
 have t3 := HC.out.cell 3 _ rfl
 have t4 := HC.out.cell 4 _ rfl
 have hBV := HBV.out
 clear HBV
 unfold clB at hBV
 simp only at hBV
 by_cases h4 : kd = 4
 ·subst h4
  rw [if_pos (.inl rfl)] at hBV
  by_cases HA : inR ca n1 = true
  ·have HIA := hide HA
   rw [HA] at hBV
   clear HA
   by_cases HB : inR cb n1 = true
   ·have HIB := hide HB
    rw [HB] at hBV
    clear HB
    by_cases hne : ca = cb
    ·rw [decide_eq_false (fun h => h hne)] at hBV
     subst hne
     have hbb : ∀ z : Int, (z != z) = false := fun z => by simp
     simp at hBV
     subst hBV
     go_wp2_with (go_at_call 42; refine (in16 _ _ _).mono ?_; rintro e wi ⟨rfl, hw9⟩; have hw8 := hw9.symm; subst hw8; clear hw9; (first | rw [HIA.out] | rw [HIB.out]))
     go_ret
     exact ⟨rfl, HB.out⟩
    ·have hneb : (ca != cb) = true := by simpa using hne
     rw [decide_eq_true hne] at hBV
     clear hne
     by_cases hz : cn = 0
     ·subst hz
      rw [decide_eq_true rfl] at hBV
      simp at hBV
      subst hBV
      go_wp2_with (go_at_call 42; refine (in16 _ _ _).mono ?_; rintro e wi ⟨rfl, hw9⟩; have hw8 := hw9.symm; subst hw8; clear hw9; (first | rw [HIA.out] | rw [HIB.out]))
      go_ret
      exact ⟨rfl, HB.out⟩
     ·have hzb : (cn == 0) = false := by simpa using hz
      rw [decide_eq_false hz] at hBV
      clear hz
      simp at hBV
      subst hBV
      go_wp2_with (go_at_call 42; refine (in16 _ _ _).mono ?_; rintro e wi ⟨rfl, hw9⟩; have hw8 := hw9.symm; subst hw8; clear hw9; (first | rw [HIA.out] | rw [HIB.out]))
      go_ret
      exact ⟨rfl, HB.out⟩
   ·rw [Bool.not_eq_true] at HB
    have HIB := hide HB
    rw [HB] at hBV
    clear HB
    simp at hBV
    subst hBV
    go_wp2_with (go_at_call 42; refine (in16 _ _ _).mono ?_; rintro e wi ⟨rfl, hw9⟩; have hw8 := hw9.symm; subst hw8; clear hw9; (first | rw [HIA.out] | rw [HIB.out]))
    go_ret
    exact ⟨rfl, HB.out⟩
  ·rw [Bool.not_eq_true] at HA
   have HIA := hide HA
   rw [HA] at hBV
   clear HA
   simp at hBV
   subst hBV
   go_wp2_with (go_at_call 42; refine (in16 _ _ _).mono ?_; rintro e wi ⟨rfl, hw9⟩; have hw8 := hw9.symm; subst hw8; clear hw9; (first | rw [HIA.out] | rw [HIB.out]))
   go_ret
   exact ⟨rfl, HB.out⟩
 by_cases h5 : kd = 5
 ·subst h5
  rw [if_pos (.inr rfl)] at hBV
  by_cases HA : inR ca n1 = true
  ·have HIA := hide HA
   rw [HA] at hBV
   clear HA
   by_cases HB : inR cb n1 = true
   ·have HIB := hide HB
    rw [HB] at hBV
    clear HB
    by_cases hne : ca = cb
    ·rw [decide_eq_false (fun h => h hne)] at hBV
     subst hne
     have hbb : ∀ z : Int, (z != z) = false := fun z => by simp
     simp at hBV
     subst hBV
     go_wp2_with (go_at_call 42; refine (in16 _ _ _).mono ?_; rintro e wi ⟨rfl, hw9⟩; have hw8 := hw9.symm; subst hw8; clear hw9; (first | rw [HIA.out] | rw [HIB.out]))
     go_ret
     exact ⟨rfl, HB.out⟩
    ·have hneb : (ca != cb) = true := by simpa using hne
     rw [decide_eq_true hne] at hBV
     clear hne
     by_cases hz : cn = 0
     ·subst hz
      rw [decide_eq_true rfl] at hBV
      simp at hBV
      subst hBV
      go_wp2_with (go_at_call 42; refine (in16 _ _ _).mono ?_; rintro e wi ⟨rfl, hw9⟩; have hw8 := hw9.symm; subst hw8; clear hw9; (first | rw [HIA.out] | rw [HIB.out]))
      go_ret
      exact ⟨rfl, HB.out⟩
     ·have hzb : (cn == 0) = false := by simpa using hz
      rw [decide_eq_false hz] at hBV
      clear hz
      simp at hBV
      subst hBV
      go_wp2_with (go_at_call 42; refine (in16 _ _ _).mono ?_; rintro e wi ⟨rfl, hw9⟩; have hw8 := hw9.symm; subst hw8; clear hw9; (first | rw [HIA.out] | rw [HIB.out]))
      go_ret
      exact ⟨rfl, HB.out⟩
   ·rw [Bool.not_eq_true] at HB
    have HIB := hide HB
    rw [HB] at hBV
    clear HB
    simp at hBV
    subst hBV
    go_wp2_with (go_at_call 42; refine (in16 _ _ _).mono ?_; rintro e wi ⟨rfl, hw9⟩; have hw8 := hw9.symm; subst hw8; clear hw9; (first | rw [HIA.out] | rw [HIB.out]))
    go_ret
    exact ⟨rfl, HB.out⟩
  ·rw [Bool.not_eq_true] at HA
   have HIA := hide HA
   rw [HA] at hBV
   clear HA
   simp at hBV
   subst hBV
   go_wp2_with (go_at_call 42; refine (in16 _ _ _).mono ?_; rintro e wi ⟨rfl, hw9⟩; have hw8 := hw9.symm; subst hw8; clear hw9; (first | rw [HIA.out] | rw [HIB.out]))
   go_ret
   exact ⟨rfl, HB.out⟩
 by_cases h9 : kd = 9
 ·subst h9
  rw [if_neg (by decide), if_pos rfl] at hBV
  by_cases HA : inR ca n2 = true
  ·have HIA := hide HA
   rw [HA] at hBV
   clear HA
   by_cases HB : inR cb n1 = true
   ·have HIB := hide HB
    rw [HB] at hBV
    clear HB
    by_cases hz : cn = 0
    ·subst hz
     rw [decide_eq_true rfl] at hBV
     simp at hBV
     subst hBV
     go_wp2_with (go_at_call 42; refine (in16 _ _ _).mono ?_; rintro e wi ⟨rfl, hw9⟩; have hw8 := hw9.symm; subst hw8; clear hw9; (first | rw [HIA.out] | rw [HIB.out]))
     go_ret
     exact ⟨rfl, HB.out⟩
    ·have hzb : (cn == 0) = false := by simpa using hz
     rw [decide_eq_false hz] at hBV
     clear hz
     simp at hBV
     subst hBV
     go_wp2_with (go_at_call 42; refine (in16 _ _ _).mono ?_; rintro e wi ⟨rfl, hw9⟩; have hw8 := hw9.symm; subst hw8; clear hw9; (first | rw [HIA.out] | rw [HIB.out]))
     go_ret
     exact ⟨rfl, HB.out⟩
   ·rw [Bool.not_eq_true] at HB
    have HIB := hide HB
    rw [HB] at hBV
    clear HB
    simp at hBV
    subst hBV
    go_wp2_with (go_at_call 42; refine (in16 _ _ _).mono ?_; rintro e wi ⟨rfl, hw9⟩; have hw8 := hw9.symm; subst hw8; clear hw9; (first | rw [HIA.out] | rw [HIB.out]))
    go_ret
    exact ⟨rfl, HB.out⟩
  ·rw [Bool.not_eq_true] at HA
   have HIA := hide HA
   rw [HA] at hBV
   clear HA
   simp at hBV
   subst hBV
   go_wp2_with (go_at_call 42; refine (in16 _ _ _).mono ?_; rintro e wi ⟨rfl, hw9⟩; have hw8 := hw9.symm; subst hw8; clear hw9; (first | rw [HIA.out] | rw [HIB.out]))
   go_ret
   exact ⟨rfl, HB.out⟩
 by_cases h6 : kd = 6
 ·subst h6
  rw [if_neg (by decide), if_neg (by decide), if_pos rfl] at hBV
  by_cases HA : inR ca n1 = true
  ·have HIA := hide HA
   rw [HA] at hBV
   clear HA
   by_cases hy : cb = 0
   ·subst hy
    rw [decide_eq_true rfl] at hBV
    by_cases hu : 0 ≤ cn
    ·rw [decide_eq_true hu] at hBV
     by_cases hv : cn ≤ 1000
     ·rw [decide_eq_true hv] at hBV
      cases st
      ·simp at hBV
       subst hBV
       go_wp2_with (go_at_call 42; refine (in16 _ _ _).mono ?_; rintro e wi ⟨rfl, hw9⟩; have hw8 := hw9.symm; subst hw8; clear hw9; (first | rw [HIA.out] | rw [HIB.out]))
       go_ret
       exact ⟨rfl, HB.out⟩
      ·simp at hBV
       subst hBV
       go_wp2_with (go_at_call 42; refine (in16 _ _ _).mono ?_; rintro e wi ⟨rfl, hw9⟩; have hw8 := hw9.symm; subst hw8; clear hw9; (first | rw [HIA.out] | rw [HIB.out]))
       go_ret
       exact ⟨rfl, HB.out⟩
     ·rw [decide_eq_false hv] at hBV
      simp at hBV
      subst hBV
      go_wp2_with (go_at_call 42; refine (in16 _ _ _).mono ?_; rintro e wi ⟨rfl, hw9⟩; have hw8 := hw9.symm; subst hw8; clear hw9; (first | rw [HIA.out] | rw [HIB.out]))
      go_ret
      exact ⟨rfl, HB.out⟩
    ·rw [decide_eq_false hu] at hBV
     simp at hBV
     subst hBV
     go_wp2_with (go_at_call 42; refine (in16 _ _ _).mono ?_; rintro e wi ⟨rfl, hw9⟩; have hw8 := hw9.symm; subst hw8; clear hw9; (first | rw [HIA.out] | rw [HIB.out]))
     go_ret
     exact ⟨rfl, HB.out⟩
   ·have hyb : (cb == 0) = false := by simpa using hy
    rw [decide_eq_false hy] at hBV
    clear hy
    simp at hBV
    subst hBV
    go_wp2_with (go_at_call 42; refine (in16 _ _ _).mono ?_; rintro e wi ⟨rfl, hw9⟩; have hw8 := hw9.symm; subst hw8; clear hw9; (first | rw [HIA.out] | rw [HIB.out]))
    go_ret
    exact ⟨rfl, HB.out⟩
  ·rw [Bool.not_eq_true] at HA
   have HIA := hide HA
   rw [HA] at hBV
   clear HA
   simp at hBV
   subst hBV
   go_wp2_with (go_at_call 42; refine (in16 _ _ _).mono ?_; rintro e wi ⟨rfl, hw9⟩; have hw8 := hw9.symm; subst hw8; clear hw9; (first | rw [HIA.out] | rw [HIB.out]))
   go_ret
   exact ⟨rfl, HB.out⟩
 by_cases h7 : kd = 7
 ·subst h7
  rw [if_neg (by decide), if_neg (by decide), if_neg (by decide), if_pos rfl] at hBV
  by_cases HA : inR ca n2 = true
  ·have HIA := hide HA
   rw [HA] at hBV
   clear HA
   by_cases hy : cb = 0
   ·subst hy
    rw [decide_eq_true rfl] at hBV
    by_cases hu : 0 ≤ cn
    ·rw [decide_eq_true hu] at hBV
     by_cases hv : cn ≤ 1000
     ·rw [decide_eq_true hv] at hBV
      cases st
      ·simp at hBV
       subst hBV
       go_wp2_with (go_at_call 42; refine (in16 _ _ _).mono ?_; rintro e wi ⟨rfl, hw9⟩; have hw8 := hw9.symm; subst hw8; clear hw9; (first | rw [HIA.out] | rw [HIB.out]))
       go_ret
       exact ⟨rfl, HB.out⟩
      ·simp at hBV
       subst hBV
       go_wp2_with (go_at_call 42; refine (in16 _ _ _).mono ?_; rintro e wi ⟨rfl, hw9⟩; have hw8 := hw9.symm; subst hw8; clear hw9; (first | rw [HIA.out] | rw [HIB.out]))
       go_ret
       exact ⟨rfl, HB.out⟩
     ·rw [decide_eq_false hv] at hBV
      simp at hBV
      subst hBV
      go_wp2_with (go_at_call 42; refine (in16 _ _ _).mono ?_; rintro e wi ⟨rfl, hw9⟩; have hw8 := hw9.symm; subst hw8; clear hw9; (first | rw [HIA.out] | rw [HIB.out]))
      go_ret
      exact ⟨rfl, HB.out⟩
    ·rw [decide_eq_false hu] at hBV
     simp at hBV
     subst hBV
     go_wp2_with (go_at_call 42; refine (in16 _ _ _).mono ?_; rintro e wi ⟨rfl, hw9⟩; have hw8 := hw9.symm; subst hw8; clear hw9; (first | rw [HIA.out] | rw [HIB.out]))
     go_ret
     exact ⟨rfl, HB.out⟩
   ·have hyb : (cb == 0) = false := by simpa using hy
    rw [decide_eq_false hy] at hBV
    clear hy
    simp at hBV
    subst hBV
    go_wp2_with (go_at_call 42; refine (in16 _ _ _).mono ?_; rintro e wi ⟨rfl, hw9⟩; have hw8 := hw9.symm; subst hw8; clear hw9; (first | rw [HIA.out] | rw [HIB.out]))
    go_ret
    exact ⟨rfl, HB.out⟩
  ·rw [Bool.not_eq_true] at HA
   have HIA := hide HA
   rw [HA] at hBV
   clear HA
   simp at hBV
   subst hBV
   go_wp2_with (go_at_call 42; refine (in16 _ _ _).mono ?_; rintro e wi ⟨rfl, hw9⟩; have hw8 := hw9.symm; subst hw8; clear hw9; (first | rw [HIA.out] | rw [HIB.out]))
   go_ret
   exact ⟨rfl, HB.out⟩
 by_cases h8 : kd = 8
 ·subst h8
  rw [if_neg (by decide), if_neg (by decide), if_neg (by decide), if_neg (by decide), if_pos rfl] at hBV
  by_cases HA : inR ca n2 = true
  ·have HIA := hide HA
   rw [HA] at hBV
   clear HA
   by_cases hy : cb = 0
   ·subst hy
    rw [decide_eq_true rfl] at hBV
    by_cases hu : -1000 ≤ cn
    ·rw [decide_eq_true hu] at hBV
     by_cases hv : cn ≤ 0
     ·rw [decide_eq_true hv] at hBV
      cases st
      ·simp at hBV
       subst hBV
       go_wp2_with (go_at_call 42; refine (in16 _ _ _).mono ?_; rintro e wi ⟨rfl, hw9⟩; have hw8 := hw9.symm; subst hw8; clear hw9; (first | rw [HIA.out] | rw [HIB.out]))
       go_ret
       exact ⟨rfl, HB.out⟩
      ·simp at hBV
       subst hBV
       go_wp2_with (go_at_call 42; refine (in16 _ _ _).mono ?_; rintro e wi ⟨rfl, hw9⟩; have hw8 := hw9.symm; subst hw8; clear hw9; (first | rw [HIA.out] | rw [HIB.out]))
       go_ret
       exact ⟨rfl, HB.out⟩
     ·rw [decide_eq_false hv] at hBV
      simp at hBV
      subst hBV
      go_wp2_with (go_at_call 42; refine (in16 _ _ _).mono ?_; rintro e wi ⟨rfl, hw9⟩; have hw8 := hw9.symm; subst hw8; clear hw9; (first | rw [HIA.out] | rw [HIB.out]))
      go_ret
      exact ⟨rfl, HB.out⟩
    ·rw [decide_eq_false hu] at hBV
     simp at hBV
     subst hBV
     go_wp2_with (go_at_call 42; refine (in16 _ _ _).mono ?_; rintro e wi ⟨rfl, hw9⟩; have hw8 := hw9.symm; subst hw8; clear hw9; (first | rw [HIA.out] | rw [HIB.out]))
     go_ret
     exact ⟨rfl, HB.out⟩
   ·have hyb : (cb == 0) = false := by simpa using hy
    rw [decide_eq_false hy] at hBV
    clear hy
    simp at hBV
    subst hBV
    go_wp2_with (go_at_call 42; refine (in16 _ _ _).mono ?_; rintro e wi ⟨rfl, hw9⟩; have hw8 := hw9.symm; subst hw8; clear hw9; (first | rw [HIA.out] | rw [HIB.out]))
    go_ret
    exact ⟨rfl, HB.out⟩
  ·rw [Bool.not_eq_true] at HA
   have HIA := hide HA
   rw [HA] at hBV
   clear HA
   simp at hBV
   subst hBV
   go_wp2_with (go_at_call 42; refine (in16 _ _ _).mono ?_; rintro e wi ⟨rfl, hw9⟩; have hw8 := hw9.symm; subst hw8; clear hw9; (first | rw [HIA.out] | rw [HIB.out]))
   go_ret
   exact ⟨rfl, HB.out⟩
 rw [if_neg (by omega), if_neg h9, if_neg h6, if_neg h7, if_neg h8] at hBV
 have b4 : (kd == 4) = false := by simpa using h4
 have b5 : (kd == 5) = false := by simpa using h5
 have b9 : (kd == 9) = false := by simpa using h9
 have b6 : (kd == 6) = false := by simpa using h6
 have b7 : (kd == 7) = false := by simpa using h7
 have b8 : (kd == 8) = false := by simpa using h8
 clear h4 h5 h9 h6 h7 h8
 subst hBV
 go_wp2
 go_ret
 exact ⟨rfl, HB.out⟩
end Go.Proofs.YtomppblgalepjaaGreatDoor

