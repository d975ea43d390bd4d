/- Texts of this claim, joined: AB7. -/
import Derived.Deep.SlicePairs
import Derived.Lib.SmallJoins
import Derived.Test.YtkbbegbpkndebaaGreatJ1
import Derived.Test.YtkbbegbpkndebaaGreatJ2
import Derived.Test.YtkbbegbpkndebaaGreatJ3
import Derived.Test.YtkbbegbpkndebaaGreatJ47
/- What is said of memory and of numbers, gathered (CPlain, CFun, DSeen, EFun1, EFun3, EOpen). -/
namespace Go.Proofs.YtkbbegbpkndebaaGreat
open Go.RowKit
set_option linter.unusedVariables false
theorem plen_take_zero {X : List Int} {k : Nat} (hk : k < X.length) (h : X.getD k 0 = 0) (hp : plen X = plen (X.take (k + 1))) : plen X = plen (X.take k) := by
 rw [hp, List.take_add_one]
 have e : X[k]? = some 0 := by
  have h1 : X.getD k 0 = X[k] := by simp [List.getD_eq_getElem?_getD, hk]
  rw [List.getElem?_eq_getElem hk, ← h1, h]
 rw [e]; exact plen_zero _
theorem pln_take {X : List Int} {k : Nat} (hk : k < X.length) (h : X.getD k 0 ≠ 0) (hp : plen X = plen (X.take (k + 1))) : pln X = X.take (k + 1) := by
 unfold pln
 rw [hp]
 congr 1
 rw [List.take_add_one]
 have e : X[k]? = some (X.getD k 0) := by simp [List.getD_eq_getElem?_getD, hk]
 rw [e]
 have := plen_snoc h (X.take k)
 rw [show (some (X.getD k 0)).toList = [X.getD k 0] from rfl, this, List.length_take]
 omega
theorem five_ns (w : World) (x0 x1 x2 x3 x4 : Int) (k : Nat) (hk : k ≤ 5) : NS (w.alloc (.cells #[.int .i64 x0, .int .i64 x1, .int .i64 x2, .int .i64 x3, .int .i64 x4] 183)) (some ⟨w.heap.size, 0, none⟩) k ([x0, x1, x2, x3, x4].take k) :=
 (NS.new w _ rfl [x0, x1, x2, x3, x4] _ rfl _ _ 5 rfl (by decide)).head k hk
set_option maxHeartbeats 1000000 in
theorem plain_any (x0 x1 x2 x3 x4 : Int) (w : World) :
  Calls Tryz.prog 186 #[.agg #[.int .i64 x0, .int .i64 x1, .int .i64 x2, .int .i64 x3, .int .i64 x4]] w fun e w' => ∃ v, e = .returned v ∧ OwnN w.heap.size w' v (pln [x0, x1, x2, x3, x4]) ∧ Below w.heap.size w w' := by
 have HP : Hid (plen [x0, x1, x2, x3, x4] = plen ([x0, x1, x2, x3, x4].take 5)) := rfl
 go_enter Tryz.func186, Tryz.ntmps186
 go_wp2
 go_loop [3] (fun i => ∃ k : Nat, k ≤ 5 ∧ i = .int .i64 k ∧ Hid (plen [x0, x1, x2, x3, x4] = plen ([x0, x1, x2, x3, x4].take k))) (fun i => (intOf i).toNat)
 case atStart => exact ⟨5, by omega, rfl, HP⟩
 case round =>
  clear HP
  obtain ⟨k, hk, rfl, hH⟩ := hrel
  have hk5 : k = 0 ∨ k = 1 ∨ k = 2 ∨ k = 3 ∨ k = 4 ∨ k = 5 := by omega
  rcases hk5 with rfl | rfl | rfl | rfl | rfl | rfl
  ·have HE : Hid ([x0, x1, x2, x3, x4].take 0 = pln [x0, x1, x2, x3, x4]) := by have h2 := hH.out; unfold Hid pln; rw [h2]; rfl
   clear hH
   have hns := hide (five_ns w x0 x1 x2 x3 x4 0 (by omega))
   go_wp2_with (at_builtin; refine Stop.at ?_)
   unfold Stop
   refine append_nums rfl _ _ 34 Tryz.underlying34 rfl w.heap.size _ [] ([x0, x1, x2, x3, x4].take 0) rfl (OwnN.nil _ _) ⟨w.heap.size, 0, none⟩ 0 5 rfl hns.out (by simp) (by simp) ?_
   intro v' w' hown hgr hbel
   have hB := hide (hbel _ (bel1 w _))
   have hO := hide hown
   clear hown hgr hbel
   go_wp2
   go_ret
   refine ⟨_, rfl, ?_, hB.out⟩
   rw [← HE.out]
   exact hO.out
  ·by_cases hz : x0 = 0
   ·have hH2 : Hid (plen [x0, x1, x2, x3, x4] = plen ([x0, x1, x2, x3, x4].take 0)) := plen_take_zero (X := [x0, x1, x2, x3, x4]) (k := 0) (by simp) hz hH.out
    clear hH
    go_wp2
    go_round
    case rel => exact ⟨0, by omega, rfl, by have h := hH2.out; rw [hz] at h; exact h⟩
    case measure => first | decide | (simp [intOf]; done) | (simp [intOf]; omega)
   ·have HE : Hid ([x0, x1, x2, x3, x4].take 1 = pln [x0, x1, x2, x3, x4]) := (pln_take (X := [x0, x1, x2, x3, x4]) (k := 0) (by simp) hz hH.out).symm
    clear hH
    have hns := hide (five_ns w x0 x1 x2 x3 x4 1 (by omega))
    go_wp2_with (at_builtin; refine Stop.at ?_)
    unfold Stop
    refine append_nums rfl _ _ 34 Tryz.underlying34 rfl w.heap.size _ [] ([x0, x1, x2, x3, x4].take 1) rfl (OwnN.nil _ _) ⟨w.heap.size, 0, none⟩ 1 5 rfl hns.out (by simp) (by simp) ?_
    intro v' w' hown hgr hbel
    have hB := hide (hbel _ (bel1 w _))
    have hO := hide hown
    clear hown hgr hbel
    go_wp2
    go_ret
    refine ⟨_, rfl, ?_, hB.out⟩
    rw [← HE.out]
    exact hO.out
  ·by_cases hz : x1 = 0
   ·have hH2 : Hid (plen [x0, x1, x2, x3, x4] = plen ([x0, x1, x2, x3, x4].take 1)) := plen_take_zero (X := [x0, x1, x2, x3, x4]) (k := 1) (by simp) hz hH.out
    clear hH
    go_wp2
    go_round
    case rel => exact ⟨1, by omega, rfl, by have h := hH2.out; rw [hz] at h; exact h⟩
    case measure => first | decide | (simp [intOf]; done) | (simp [intOf]; omega)
   ·have HE : Hid ([x0, x1, x2, x3, x4].take 2 = pln [x0, x1, x2, x3, x4]) := (pln_take (X := [x0, x1, x2, x3, x4]) (k := 1) (by simp) hz hH.out).symm
    clear hH
    have hns := hide (five_ns w x0 x1 x2 x3 x4 2 (by omega))
    go_wp2_with (at_builtin; refine Stop.at ?_)
    unfold Stop
    refine append_nums rfl _ _ 34 Tryz.underlying34 rfl w.heap.size _ [] ([x0, x1, x2, x3, x4].take 2) rfl (OwnN.nil _ _) ⟨w.heap.size, 0, none⟩ 2 5 rfl hns.out (by simp) (by simp) ?_
    intro v' w' hown hgr hbel
    have hB := hide (hbel _ (bel1 w _))
    have hO := hide hown
    clear hown hgr hbel
    go_wp2
    go_ret
    refine ⟨_, rfl, ?_, hB.out⟩
    rw [← HE.out]
    exact hO.out
  ·by_cases hz : x2 = 0
   ·have hH2 : Hid (plen [x0, x1, x2, x3, x4] = plen ([x0, x1, x2, x3, x4].take 2)) := plen_take_zero (X := [x0, x1, x2, x3, x4]) (k := 2) (by simp) hz hH.out
    clear hH
    go_wp2
    go_round
    case rel => exact ⟨2, by omega, rfl, by have h := hH2.out; rw [hz] at h; exact h⟩
    case measure => first | decide | (simp [intOf]; done) | (simp [intOf]; omega)
   ·have HE : Hid ([x0, x1, x2, x3, x4].take 3 = pln [x0, x1, x2, x3, x4]) := (pln_take (X := [x0, x1, x2, x3, x4]) (k := 2) (by simp) hz hH.out).symm
    clear hH
    have hns := hide (five_ns w x0 x1 x2 x3 x4 3 (by omega))
    go_wp2_with (at_builtin; refine Stop.at ?_)
    unfold Stop
    refine append_nums rfl _ _ 34 Tryz.underlying34 rfl w.heap.size _ [] ([x0, x1, x2, x3, x4].take 3) rfl (OwnN.nil _ _) ⟨w.heap.size, 0, none⟩ 3 5 rfl hns.out (by simp) (by simp) ?_
    intro v' w' hown hgr hbel
    have hB := hide (hbel _ (bel1 w _))
    have hO := hide hown
    clear hown hgr hbel
    go_wp2
    go_ret
    refine ⟨_, rfl, ?_, hB.out⟩
    rw [← HE.out]
    exact hO.out
  ·by_cases hz : x3 = 0
   ·have hH2 : Hid (plen [x0, x1, x2, x3, x4] = plen ([x0, x1, x2, x3, x4].take 3)) := plen_take_zero (X := [x0, x1, x2, x3, x4]) (k := 3) (by simp) hz hH.out
    clear hH
    go_wp2
    go_round
    case rel => exact ⟨3, by omega, rfl, by have h := hH2.out; rw [hz] at h; exact h⟩
    case measure => first | decide | (simp [intOf]; done) | (simp [intOf]; omega)
   ·have HE : Hid ([x0, x1, x2, x3, x4].take 4 = pln [x0, x1, x2, x3, x4]) := (pln_take (X := [x0, x1, x2, x3, x4]) (k := 3) (by simp) hz hH.out).symm
    clear hH
    have hns := hide (five_ns w x0 x1 x2 x3 x4 4 (by omega))
    go_wp2_with (at_builtin; refine Stop.at ?_)
    unfold Stop
    refine append_nums rfl _ _ 34 Tryz.underlying34 rfl w.heap.size _ [] ([x0, x1, x2, x3, x4].take 4) rfl (OwnN.nil _ _) ⟨w.heap.size, 0, none⟩ 4 5 rfl hns.out (by simp) (by simp) ?_
    intro v' w' hown hgr hbel
    have hB := hide (hbel _ (bel1 w _))
    have hO := hide hown
    clear hown hgr hbel
    go_wp2
    go_ret
    refine ⟨_, rfl, ?_, hB.out⟩
    rw [← HE.out]
    exact hO.out
  ·by_cases hz : x4 = 0
   ·have hH2 : Hid (plen [x0, x1, x2, x3, x4] = plen ([x0, x1, x2, x3, x4].take 4)) := plen_take_zero (X := [x0, x1, x2, x3, x4]) (k := 4) (by simp) hz hH.out
    clear hH
    go_wp2
    go_round
    case rel => exact ⟨4, by omega, rfl, by have h := hH2.out; rw [hz] at h; exact h⟩
    case measure => first | decide | (simp [intOf]; done) | (simp [intOf]; omega)
   ·have HE : Hid ([x0, x1, x2, x3, x4].take 5 = pln [x0, x1, x2, x3, x4]) := (pln_take (X := [x0, x1, x2, x3, x4]) (k := 4) (by simp) hz hH.out).symm
    clear hH
    have hns := hide (five_ns w x0 x1 x2 x3 x4 5 (by omega))
    go_wp2_with (at_builtin; refine Stop.at ?_)
    unfold Stop
    refine append_nums rfl _ _ 34 Tryz.underlying34 rfl w.heap.size _ [] ([x0, x1, x2, x3, x4].take 5) rfl (OwnN.nil _ _) ⟨w.heap.size, 0, none⟩ 5 5 rfl hns.out (by simp) (by simp) ?_
    intro v' w' hown hgr hbel
    have hB := hide (hbel _ (bel1 w _))
    have hO := hide hown
    clear hown hgr hbel
    go_wp2
    go_ret
    refine ⟨_, rfl, ?_, hB.out⟩
    rw [← HE.out]
    exact hO.out
end Go.Proofs.YtkbbegbpkndebaaGreat

namespace Go.Proofs.YtkbbegbpkndebaaGreat
open Go.RowKit
set_option linter.unusedVariables false
theorem Plain_any (a : Option Addr) (n cap : Nat) (c : List Int) (w : World) (hN : NS w a n c) :
  Calls Tryz.prog 160 #[.slice a n cap] w fun e w' => ∃ v, e = .returned v ∧ OwnN w.heap.size w' v (pln (vec c)) ∧ Below w.heap.size w w' := by
 have HN := hide hN
 clear hN
 go_enter Tryz.func160, Tryz.ntmps160
 go_wp2_with (first
  | (go_at_call 162; refine (numbers_any _ _ _ c _ HN.out).mono ?_; rintro e w1 ⟨rfl, hb1⟩; have HB1 := hide hb1; clear hb1)
  | (go_at_call 186; refine (plain_any _ _ _ _ _ _).mono ?_; rintro e w2 ⟨v, rfl, hown, hb2⟩; have HO := hide hown; have HB2 := hide hb2; clear hown hb2))
 go_ret
 exact ⟨_, rfl, HO.out.mono HB1.out.size, bel_next HB1.out HB2.out⟩
end Go.Proofs.YtkbbegbpkndebaaGreat

namespace Go.Proofs.YtkbbegbpkndebaaGreat
def plainC (c : List Int) : Bool := mayC c && decide (pln (vec c) = c)
theorem pln_zeros (l : List Int) (k : Nat) : pln (l ++ List.replicate k 0) = pln l := by
 induction k with
 | zero => simp
 | succ k ih => rw [List.replicate_succ', ← List.append_assoc, pln_zero, ih]
theorem vec_pad {c : List Int} (h : mayC c = true) : vec c = c ++ List.replicate (5 - c.length) 0 := by
 have h5 := (mayC_iff.1 h).1
 unfold vec at5
 simp only [if_pos h]
 match c, h5 with
 | [], _ => rfl
 | [_], _ => rfl
 | [_, _], _ => rfl
 | [_, _, _], _ => rfl
 | [_, _, _, _], _ => rfl
 | [_, _, _, _, _], _ => rfl
 | _ :: _ :: _ :: _ :: _ :: _ :: _, h5 => simp at h5
theorem plain_len {c : List Int} (h : mayC c = true) : (pln (vec c)).length = c.length ↔ pln (vec c) = c := by
 rw [vec_pad h, pln_zeros]
 constructor
 ·intro e
  unfold pln at *
  exact List.take_of_length_le (by rw [List.length_take] at e; omega)
 ·exact fun e => by rw [e]
theorem plainC_as {c : List Int} (h : mayC c = true) : plainC c = decide ((pln (vec c)).length = c.length) := by
 unfold plainC
 rw [h, Bool.true_and]
 exact decide_eq_decide.2 (plain_len h).symm
end Go.Proofs.YtkbbegbpkndebaaGreat

namespace Go.Proofs.YtkbbegbpkndebaaGreat
open Go.RowKit
set_option linter.unusedVariables false
theorem fits_no5 {k n t : Int} {wl : Nat} {f : Bool} (hf : fits k n t wl = f) (h : ¬ (((k = 1 ∨ k = 2) ∧ n = 0 ∧ t = 0 ∧ wl = 0) ∨ ((k = 3 ∨ k = 4) ∧ 1 ≤ n ∧ n ≤ 1000 ∧ t = 0 ∧ wl = 0) ∨ (k = 5 ∧ 1 ≤ n ∧ n ≤ 1000 ∧ 1 ≤ t ∧ t ≤ 5 ∧ wl = 0) ∨ (k = 6 ∧ n = 0 ∧ t = 0 ∧ wl ≤ 64))) : false = f := by
 rw [← hf]; symm; rw [← Bool.not_eq_true, fits_iff]; exact h
theorem fits_if5 {k n t : Int} {wl : Nat} {f b : Bool} {p : Prop} [Decidable p] (hf : fits k n t wl = f) (hb : b = decide p) (h : p ↔ (((k = 1 ∨ k = 2) ∧ n = 0 ∧ t = 0 ∧ wl = 0) ∨ ((k = 3 ∨ k = 4) ∧ 1 ≤ n ∧ n ≤ 1000 ∧ t = 0 ∧ wl = 0) ∨ (k = 5 ∧ 1 ≤ n ∧ n ≤ 1000 ∧ 1 ≤ t ∧ t ≤ 5 ∧ wl = 0) ∨ (k = 6 ∧ n = 0 ∧ t = 0 ∧ wl ≤ 64))) : b = f := by
 rw [← hf, hb, Bool.eq_iff_iff, decide_eq_true_iff, fits_iff]; exact h
abbrev bxF (k o n t : Int) (sk sw : ByteArray) : Obj := .cells #[.int .i64 k, .int .i64 o, .string sk, .int .i64 n, .int .i64 t, .string sw] 82
set_option maxHeartbeats 1000000 in
theorem fitsKind_any (k o n t : Int) (sk sw : ByteArray) (f : Bool) (hf : fits k n t sw.size = f) (w : World) :
  Calls Tryz.prog 163 #[.agg #[.int .i64 k, .int .i64 o, .string sk, .int .i64 n, .int .i64 t, .string sw]] w fun e w' => e = .returned (.bool f) ∧ Gr w w' := by
 have HF := hide hf
 clear hf
 by_cases h1 : k = 1
 ·subst h1
  go_enter Tryz.func163, Tryz.ntmps163
  go_wp2 <;> go_ret <;> (refine ⟨retB ?_, (Gr.refl w).alloc _⟩) <;> first | exact fits_no5 HF.out (by omega) | exact fits_if5 HF.out (isE sw) (by omega)
 ·by_cases h2 : k = 2
  ·subst h2
   go_enter Tryz.func163, Tryz.ntmps163
   go_wp2 <;> go_ret <;> (refine ⟨retB ?_, (Gr.refl w).alloc _⟩) <;> first | exact fits_no5 HF.out (by omega) | exact fits_if5 HF.out (isE sw) (by omega)
  ·by_cases h3 : k = 3
   ·subst h3
    go_enter Tryz.func163, Tryz.ntmps163
    go_wp2 <;> go_ret <;> (refine ⟨retB ?_, (Gr.refl w).alloc _⟩) <;> first | exact fits_no5 HF.out (by omega) | exact fits_if5 HF.out (isE sw) (by omega)
   ·by_cases h4 : k = 4
    ·subst h4
     go_enter Tryz.func163, Tryz.ntmps163
     go_wp2 <;> go_ret <;> (refine ⟨retB ?_, (Gr.refl w).alloc _⟩) <;> first | exact fits_no5 HF.out (by omega) | exact fits_if5 HF.out (isE sw) (by omega)
    ·by_cases h5 : k = 5
     ·subst h5
      go_enter Tryz.func163, Tryz.ntmps163
      go_wp2 <;> go_ret <;> (refine ⟨retB ?_, (Gr.refl w).alloc _⟩) <;> first | exact fits_no5 HF.out (by omega) | exact fits_if5 HF.out (isE sw) (by omega)
     ·by_cases h6 : k = 6
      ·subst h6
       go_enter Tryz.func163, Tryz.ntmps163
       go_wp2 <;> go_ret <;> (refine ⟨retB ?_, (Gr.refl w).alloc _⟩) <;> first | exact fits_no5 HF.out (by omega) | exact fits_if5 (p := (sw.size : Int) ≤ 64) HF.out (by simp) (by omega)
      ·go_enter Tryz.func163, Tryz.ntmps163
       go_wp2 <;> go_ret <;> (refine ⟨retB ?_, (Gr.refl w).alloc _⟩) <;> exact fits_no5 HF.out (by omega)
def errB (b : Bool) : Int := if b = true then 0 else 1
theorem errF {b : Bool} {k o n t : Int} {kl wl : Nat} (hf : mayS5x k o n t kl wl = b) (h : ¬ (1 ≤ kl ∧ kl ≤ 32 ∧ 0 ≤ o ∧ o ≤ 15)) : 1 = errB b := by
 have : b = false := by rw [← hf, ← Bool.not_eq_true, mayS5x_iff]; exact fun q => h q.1
 rw [this]; rfl
theorem errT {b f : Bool} {k o n t : Int} {kl wl : Nat} (hf : mayS5x k o n t kl wl = b) (h : 1 ≤ kl ∧ kl ≤ 32 ∧ 0 ≤ o ∧ o ≤ 15) (hk : fits k n t wl = f) : b = f := by
 rw [← hf, ← hk, Bool.eq_iff_iff, mayS5x_iff]; exact ⟨fun q => q.2, fun q => ⟨h, q⟩⟩
set_option maxHeartbeats 1000000 in
theorem CheckEffect_any (k o n t : Int) (sk sw : ByteArray) (b : Bool) (hf : mayS5x k o n t sk.size sw.size = b) (w : World) :
  Calls Tryz.prog 116 #[.agg #[.int .i64 k, .int .i64 o, .string sk, .int .i64 n, .int .i64 t, .string sw]] w fun e w' => e = .returned (.int .i64 (errB b)) ∧ Gr w w' := by
 have HF := hide hf
 clear hf
 by_cases h1 : (sk.size : Int) < 1
 ·go_enter Tryz.func116, Tryz.ntmps116
  go_wp2
  go_ret
  exact ⟨ret_int (errF HF.out (by omega)), (Gr.refl w).alloc _⟩
 ·by_cases h2 : (sk.size : Int) > 32
  ·go_enter Tryz.func116, Tryz.ntmps116
   go_wp2
   go_ret
   exact ⟨ret_int (errF HF.out (by omega)), (Gr.refl w).alloc _⟩
  ·by_cases h3 : o < 0
   ·go_enter Tryz.func116, Tryz.ntmps116
    go_wp2
    go_ret
    exact ⟨ret_int (errF HF.out (by omega)), (Gr.refl w).alloc _⟩
   ·by_cases h4 : o > 15
    ·go_enter Tryz.func116, Tryz.ntmps116
     go_wp2
     go_ret
     exact ⟨ret_int (errF HF.out (by omega)), (Gr.refl w).alloc _⟩
    ·obtain ⟨f, hk⟩ : ∃ f, fits k n t sw.size = f := ⟨_, rfl⟩
     have HG := hide (fun W => fitsKind_any k o n t sk sw f hk W)
     have HE := hide (errT HF.out (by omega) hk)
     have HU := hide ((Gr.refl w).alloc (bxF k o n t sk sw))
     clear hk
     cases f
     ·go_enter Tryz.func116, Tryz.ntmps116
      go_wp2_with (go_at_call 163; refine (HG.out _).mono ?_; rintro e w' ⟨rfl, hg⟩)
      go_ret
      exact ⟨ret_int (by rw [HE.out]; rfl), HU.out.trans hg⟩
     ·go_enter Tryz.func116, Tryz.ntmps116
      go_wp2_with (go_at_call 163; refine (HG.out _).mono ?_; rintro e w' ⟨rfl, hg⟩)
      go_ret
      exact ⟨ret_int (by rw [HE.out]; rfl), HU.out.trans hg⟩
end Go.Proofs.YtkbbegbpkndebaaGreat

namespace Go.Proofs.YtkbbegbpkndebaaGreat
open Go.RowKit
set_option linter.unusedVariables false
theorem plain_is5 (c : List Int) : plainC c = plainB c := by
 unfold plainC plainB
 rcases hm : mayC c with _ | _
 ·rfl
 ·rw [pln_vec c hm]
set_option maxHeartbeats 400000 in
theorem isPlainE_any (a : Option Addr) (n cap : Nat) (c : List Int) (w : World) (hN : NS w a n c) :
  Calls Tryz.prog 114 #[.slice a n cap] w fun e w' => e = .returned (.bool (plainB c)) ∧ Below w.heap.size w w' := by
 rw [← plain_is5]
 have hmax := hN.2.1
 unfold maxLen at hmax
 have hlen := hN.1
 have HC := hide (check_any a n cap c w hN)
 have HP := hide (Plain_any a n cap c w hN)
 clear hN
 rcases hm : mayC c with _ | _
 ·have e1 : chk c = 1 := by unfold chk; rw [hm]; rfl
  rw [e1] at HC
  have HE : Hid (false = plainC c) := by unfold Hid plainC; rw [hm]; rfl
  clear hm e1 hlen
  go_enter Tryz.func114, Tryz.ntmps114
  go_wp2_with (go_at_call 77; refine HC.out.mono ?_; rintro e w' ⟨rfl, rfl⟩)
  go_ret
  exact ⟨retB HE.out, Below.refl _ _⟩
 ·have e1 : chk c = 0 := by unfold chk; rw [hm]; rfl
  rw [e1] at HC
  have HE : Hid (decide ((pln (vec c)).length = n) = plainC c) := by unfold Hid; rw [plainC_as hm, hlen]
  clear hm e1 hlen
  go_enter Tryz.func114, Tryz.ntmps114
  go_wp2_with (first
   | (go_at_call 77; refine HC.out.mono ?_; rintro e w' ⟨rfl, hw⟩; replace hw := hw.symm; subst hw)
   | (go_at_call 160; refine Stop.at ?_))
  unfold Stop
  refine HP.out.mono ?_
  rintro e w' ⟨v, rfl, hO, hB⟩
  obtain ⟨p, cp, hv, hns, _⟩ := hO.open
  subst hv
  have hl2 := hns.2.1
  unfold maxLen at hl2
  generalize (pln (vec c)).length = k at hl2 HE
  clear hns hO
  have HE2 : Hid (((k : Int) == (n : Int)) = plainC c) := by
   have h := HE.out; unfold Hid; rw [← h, Bool.eq_iff_iff, beq_iff_eq, decide_eq_true_iff]; omega
  go_wp2
  go_ret
  exact ⟨retB HE2.out, hB⟩
theorem wrap_s {s : Int} (h1 : 1 ≤ s) (h2 : s ≤ 1048576) : IntKind.i64.wrap (s - 1) = s - 1 := by
 unfold IntKind.wrap
 simp [IntKind.bits, IntKind.signed]
 omega
theorem errE {b : Bool} (h : b = false) : 1 = errB b := by rw [h]; rfl
theorem errE0 {b : Bool} (h : b = true) : 0 = errB b := by rw [h]; rfl
theorem not_may4 {r s : Int} {c : List Int} {l : List Eff} (h : ¬ (1 ≤ l.length ∧ l.length ≤ 16)) : mayE ((r, s), c, l) = false := by
 rw [← Bool.not_eq_true, mayE_iff]; rintro ⟨_, h1, _⟩; exact h h1
theorem may_all {r s : Int} {c : List Int} {l : List Eff} (h1 : mayD (r, s) = true) (h2 : plainB c = true) (h3 : getZ c r = s - 1) (h4 : 1 ≤ l.length ∧ l.length ≤ 16) : mayE ((r, s), c, l) = l.all mayF := by
 unfold mayE headB; simp [h1, h2, h3, h4]
set_option maxHeartbeats 4000000 in
theorem CheckE_any (r s : Int) (pa : Option Addr) (na ca : Nat) (pe : Option Addr) (ne ce : Nat) (c : List Int) (l : List Eff) (w : World) (hN : NS w pa na c) (hE : ES w pe ne l) :
  Calls Tryz.prog 49 #[.agg #[.int .i64 r, .int .i64 s, .slice pa na ca, .slice pe ne ce]] w fun e w' => e = .returned (.int .i64 (errB (mayE ((r, s), c, l)))) ∧ Below w.heap.size w w' := by
 have HM := hide (fun W => May_any r s W)
 have HP := hide (fun W (h : NS W pa na c) => isPlainE_any pa na ca c W h)
 have HG := hide (fun W (h : NS W pa na c) => Get_any pa na ca c r W h)
 have c0 : (w.alloc (bxE r s pa na ca pe ne ce)).cell? ⟨w.heap.size, 0, none⟩ = some (.int .i64 r) := cell_new w _ _ _ rfl 0 _ rfl
 have c1 : (w.alloc (bxE r s pa na ca pe ne ce)).cell? ⟨w.heap.size, 1, none⟩ = some (.int .i64 s) := cell_new w _ _ _ rfl 1 _ rfl
 have c2 : (w.alloc (bxE r s pa na ca pe ne ce)).cell? ⟨w.heap.size, 2, none⟩ = some (.slice pa na ca) := cell_new w _ _ _ rfl 2 _ rfl
 have c3 : (w.alloc (bxE r s pa na ca pe ne ce)).cell? ⟨w.heap.size, 3, none⟩ = some (.slice pe ne ce) := cell_new w _ _ _ rfl 3 _ rfl
 have HU := hide (bel1 w (bxE r s pa na ca pe ne ce))
 have NU := hide (hN.alloc (bxE r s pa na ca pe ne ce))
 have EU := hide (hE.alloc (bxE r s pa na ca pe ne ce))
 clear hN hE
 rcases hd : mayD (r, s) with _ | _
 ·rw [hd] at HM
  have HX := hide (not_may1 (c := c) (l := l) hd)
  clear hd HP HG EU
  go_enter Tryz.func49, Tryz.ntmps49
  go_wp2
  generalize hu : w.alloc (bxE r s pa na ca pe ne ce) = u at *
  clear hu
  refine wp_region_held_drew (S := fun W => Below u.heap.size u W) (by kernel_rfl) ((Below.refl _ u).drew) (fun hS0 => ?_)
  refine tkJ 0 5 hS0 ?_; simp only [ly]
  refine tkL 1 6 hS0 ?h ?_; case h => (intro W hW; have e0 := bcell hW c0; have e1 := bcell hW c1; have e2 := bcell hW c2; clear hW; go_simp; try rfl); simp only [ly]
  refine wpAnyH_ready (rs := [2]) (by kernel_rfl) (by simp) ?_
  refine AllReadyH.cons rfl (fun K hK => ?_) AllReadyH.nil
  go_simp
  refine (HM.out _).mono ?_
  rintro e w' ⟨rfl, hg⟩
  have hb := hg.bel
  clear hg
  try go_wp2_with fail
  refine hK.out _ _ ?hs3 (fun hS1 => ?_)
  case hs3 => exact bel_next hS0 hb
  clear hK K
  try simp only [ly]
  refine tkJ 3 8 hS1 ?_; simp only [ly]
  refine tkJ 4 9 hS1 ?_; simp only [ly]
  refine tkM 5 10 hS1 ?_; simp only [ly]
  refine tkM 6 11 hS1 ?_; simp only [ly]
  refine tkM 7 12 hS1 ?_; simp only [ly]
  refine tkM 8 13 hS1 ?_; simp only [ly]
  refine tkJ 9 14 hS1 ?_; simp only [ly]
  refine tkJ 10 15 hS1 ?_; simp only [ly]
  refine tkM 11 16 hS1 ?_; simp only [ly]
  refine tkM 12 17 hS1 ?_; simp only [ly]
  refine tkM 13 18 hS1 ?_; simp only [ly]
  refine tkM 14 19 hS1 ?_; simp only [ly]
  refine tkM 15 20 hS1 ?_; simp only [ly]
  refine tkM 16 21 hS1 ?_; simp only [ly]
  refine tkM 17 22 hS1 ?_; simp only [ly]
  refine tkM 18 23 hS1 ?_; simp only [ly]
  refine tkM 19 24 hS1 ?_; simp only [ly]
  refine tkM 20 25 hS1 ?_; simp only [ly]
  refine tkM 21 26 hS1 ?_; simp only [ly]
  refine tkJ 22 27 hS1 ?_; simp only [ly]
  refine wpAnyH_done (by kernel_rfl) ?_ _
  go_wp2
  go_ret
  exact ⟨ret_int (errE HX.out), bel_next HU.out hS1⟩
 ·rcases hp : plainB c with _ | _
  ·rw [hd] at HM
   rw [hp] at HP
   have HX := hide (not_may2 (r := r) (s := s) (l := l) hp)
   clear hd hp HG EU
   go_enter Tryz.func49, Tryz.ntmps49
   go_wp2
   generalize hu : w.alloc (bxE r s pa na ca pe ne ce) = u at *
   clear hu
   refine wp_region_held_drew (S := fun W => Below u.heap.size u W) (by kernel_rfl) ((Below.refl _ u).drew) (fun hS0 => ?_)
   refine tkJ 0 5 hS0 ?_; simp only [ly]
   refine tkL 1 6 hS0 ?h ?_; case h => (intro W hW; have e0 := bcell hW c0; have e1 := bcell hW c1; have e2 := bcell hW c2; clear hW; go_simp; try rfl); simp only [ly]
   refine wpAnyH_ready (rs := [2]) (by kernel_rfl) (by simp) ?_
   refine AllReadyH.cons rfl (fun K hK => ?_) AllReadyH.nil
   go_simp
   refine (HM.out _).mono ?_
   rintro e w' ⟨rfl, hg⟩
   have hb := hg.bel
   clear hg
   try go_wp2_with fail
   refine hK.out _ _ ?hs11 (fun hS1 => ?_)
   case hs11 => exact bel_next hS0 hb
   clear hK K
   try simp only [ly]
   refine tkJ 3 8 hS1 ?_; simp only [ly]
   refine tkJ 4 9 hS1 ?_; simp only [ly]
   refine tkJ 5 10 hS1 ?_; simp only [ly]
   refine tkL 6 11 hS1 ?h ?_; case h => (intro W hW; have e0 := bcell hW c0; have e1 := bcell hW c1; have e2 := bcell hW c2; clear hW; go_simp; try rfl); simp only [ly]
   refine wpAnyH_ready (rs := [7]) (by kernel_rfl) (by simp) ?_
   refine AllReadyH.cons rfl (fun K hK => ?_) AllReadyH.nil
   go_simp
   refine (HP.out _ (NU.out.below hS1)).mono ?_
   rintro e w' ⟨rfl, hb⟩
   try go_wp2_with fail
   refine hK.out _ _ ?hs16 (fun hS2 => ?_)
   case hs16 => exact bel_next hS1 hb
   clear hK K
   try simp only [ly]
   refine tkJ 8 13 hS2 ?_; simp only [ly]
   refine tkJ 9 14 hS2 ?_; simp only [ly]
   refine tkJ 10 15 hS2 ?_; simp only [ly]
   refine tkM 11 16 hS2 ?_; simp only [ly]
   refine tkM 12 17 hS2 ?_; simp only [ly]
   refine tkM 13 18 hS2 ?_; simp only [ly]
   refine tkM 14 19 hS2 ?_; simp only [ly]
   refine tkM 15 20 hS2 ?_; simp only [ly]
   refine tkM 16 21 hS2 ?_; simp only [ly]
   refine tkM 17 22 hS2 ?_; simp only [ly]
   refine tkM 18 23 hS2 ?_; simp only [ly]
   refine tkM 19 24 hS2 ?_; simp only [ly]
   refine tkM 20 25 hS2 ?_; simp only [ly]
   refine tkM 21 26 hS2 ?_; simp only [ly]
   refine tkJ 22 27 hS2 ?_; simp only [ly]
   refine wpAnyH_done (by kernel_rfl) ?_ _
   go_wp2
   go_ret
   exact ⟨ret_int (errE HX.out), bel_next HU.out hS2⟩
  ·have hdd := mayD_iff.1 hd
   obtain ⟨d1, d2, d3, d4⟩ := hdd
   obtain ⟨z, hz⟩ : ∃ z, getZ c r = z := ⟨_, rfl⟩
   by_cases hq : z = s - 1
   ·have HA := hide (may_all (l := l) hd hp (by rw [hz]; exact hq))
    rw [hd] at HM
    rw [hp] at HP
    rw [hz] at HG
    have hq1 : (z == s - 1) = true := by simpa using hq
    have hq2 : (z != s - 1) = false := by simp [hq]
    have hwr : IntKind.i64.wrap (s - 1) = s - 1 := wrap_s d3 d4
    clear hd hp hz hq
    have hmx := EU.out.1.2.1
    unfold maxLen at hmx
    have hln := hide EU.out.1.1
    by_cases k1 : (ne : Int) < 1
    ·have HX := hide (not_may4 (r := r) (s := s) (c := c) (l := l) (by have := hln.out; omega))
     clear HA EU
     go_enter Tryz.func49, Tryz.ntmps49
     go_wp2
     generalize hu : w.alloc (bxE r s pa na ca pe ne ce) = u at *
     clear hu
     refine wp_region_held_drew (S := fun W => Below u.heap.size u W) (by kernel_rfl) ((Below.refl _ u).drew) (fun hS0 => ?_)
     refine tkJ 0 5 hS0 ?_; simp only [ly]
     refine tkL 1 6 hS0 ?h ?_; case h => (intro W hW; have e0 := bcell hW c0; have e1 := bcell hW c1; have e2 := bcell hW c2; clear hW; go_simp; try rfl); simp only [ly]
     refine wpAnyH_ready (rs := [2]) (by kernel_rfl) (by simp) ?_
     refine AllReadyH.cons rfl (fun K hK => ?_) AllReadyH.nil
     go_simp
     refine (HM.out _).mono ?_
     rintro e w' ⟨rfl, hg⟩
     have hb := hg.bel
     clear hg
     try go_wp2_with fail
     refine hK.out _ _ ?hs23 (fun hS1 => ?_)
     case hs23 => exact bel_next hS0 hb
     clear hK K
     try simp only [ly]
     refine tkJ 3 8 hS1 ?_; simp only [ly]
     refine tkJ 4 9 hS1 ?_; simp only [ly]
     refine tkJ 5 10 hS1 ?_; simp only [ly]
     refine tkL 6 11 hS1 ?h ?_; case h => (intro W hW; have e0 := bcell hW c0; have e1 := bcell hW c1; have e2 := bcell hW c2; clear hW; go_simp; try rfl); simp only [ly]
     refine wpAnyH_ready (rs := [7]) (by kernel_rfl) (by simp) ?_
     refine AllReadyH.cons rfl (fun K hK => ?_) AllReadyH.nil
     go_simp
     refine (HP.out _ (NU.out.below hS1)).mono ?_
     rintro e w' ⟨rfl, hb⟩
     try go_wp2_with fail
     refine hK.out _ _ ?hs28 (fun hS2 => ?_)
     case hs28 => exact bel_next hS1 hb
     clear hK K
     try simp only [ly]
     refine tkJ 8 13 hS2 ?_; simp only [ly]
     refine tkJ 9 14 hS2 ?_; simp only [ly]
     refine tkJ 10 15 hS2 ?_; simp only [ly]
     refine tkJ 11 16 hS2 ?_; simp only [ly]
     refine tkL 12 17 hS2 ?h ?_; case h => (intro W hW; have e0 := bcell hW c0; have e1 := bcell hW c1; have e2 := bcell hW c2; clear hW; go_simp; try rfl); simp only [ly]
     refine tkJ 13 18 hS2 ?_; simp only [ly]
     refine tkJ 14 19 hS2 ?_; simp only [ly]
     refine tkL 15 20 hS2 ?h ?_; case h => (intro W hW; have e0 := bcell hW c0; have e1 := bcell hW c1; have e2 := bcell hW c2; clear hW; go_simp; try rfl); simp only [ly]
     refine tkJ 17 22 hS2 ?_; simp only [ly]
     refine tkJ 18 23 hS2 ?_; simp only [ly]
     refine tkL 19 24 hS2 ?h ?_; case h => (intro W hW; have e0 := bcell hW c0; have e1 := bcell hW c1; have e2 := bcell hW c2; clear hW; go_simp; try rfl); simp only [ly]
     refine tkJ 20 25 hS2 ?_; simp only [ly]
     refine wpAnyH_ready (rs := [16]) (by kernel_rfl) (by simp) ?_
     refine AllReadyH.cons rfl (fun K hK => ?_) AllReadyH.nil
     go_simp
     refine (HG.out _ (NU.out.below hS2)).mono ?_
     rintro e w' ⟨rfl, hb⟩
     try go_wp2_with fail
     refine hK.out _ _ ?hs41 (fun hS3 => ?_)
     case hs41 => exact bel_next hS2 hb
     clear hK K
     try simp only [ly]
     refine tkJ 21 26 hS3 ?_; simp only [ly]
     refine tkJ 22 27 hS3 ?_; simp only [ly]
     refine wpAnyH_done (by kernel_rfl) ?_ _
     have c3 := bcell hS3 c3
     go_wp2
     go_ret
     exact ⟨ret_int (errE HX.out), bel_next HU.out hS3⟩
    ·by_cases k2 : (ne : Int) > 16
     ·have HX := hide (not_may4 (r := r) (s := s) (c := c) (l := l) (by have := hln.out; omega))
      clear HA EU
      go_enter Tryz.func49, Tryz.ntmps49
      go_wp2
      generalize hu : w.alloc (bxE r s pa na ca pe ne ce) = u at *
      clear hu
      refine wp_region_held_drew (S := fun W => Below u.heap.size u W) (by kernel_rfl) ((Below.refl _ u).drew) (fun hS0 => ?_)
      refine tkJ 0 5 hS0 ?_; simp only [ly]
      refine tkL 1 6 hS0 ?h ?_; case h => (intro W hW; have e0 := bcell hW c0; have e1 := bcell hW c1; have e2 := bcell hW c2; clear hW; go_simp; try rfl); simp only [ly]
      refine wpAnyH_ready (rs := [2]) (by kernel_rfl) (by simp) ?_
      refine AllReadyH.cons rfl (fun K hK => ?_) AllReadyH.nil
      go_simp
      refine (HM.out _).mono ?_
      rintro e w' ⟨rfl, hg⟩
      have hb := hg.bel
      clear hg
      try go_wp2_with fail
      refine hK.out _ _ ?hs46 (fun hS1 => ?_)
      case hs46 => exact bel_next hS0 hb
      clear hK K
      try simp only [ly]
      refine tkJ 3 8 hS1 ?_; simp only [ly]
      refine tkJ 4 9 hS1 ?_; simp only [ly]
      refine tkJ 5 10 hS1 ?_; simp only [ly]
      refine tkL 6 11 hS1 ?h ?_; case h => (intro W hW; have e0 := bcell hW c0; have e1 := bcell hW c1; have e2 := bcell hW c2; clear hW; go_simp; try rfl); simp only [ly]
      refine wpAnyH_ready (rs := [7]) (by kernel_rfl) (by simp) ?_
      refine AllReadyH.cons rfl (fun K hK => ?_) AllReadyH.nil
      go_simp
      refine (HP.out _ (NU.out.below hS1)).mono ?_
      rintro e w' ⟨rfl, hb⟩
      try go_wp2_with fail
      refine hK.out _ _ ?hs51 (fun hS2 => ?_)
      case hs51 => exact bel_next hS1 hb
      clear hK K
      try simp only [ly]
      refine tkJ 8 13 hS2 ?_; simp only [ly]
      refine tkJ 9 14 hS2 ?_; simp only [ly]
      refine tkJ 10 15 hS2 ?_; simp only [ly]
      refine tkJ 11 16 hS2 ?_; simp only [ly]
      refine tkL 12 17 hS2 ?h ?_; case h => (intro W hW; have e0 := bcell hW c0; have e1 := bcell hW c1; have e2 := bcell hW c2; clear hW; go_simp; try rfl); simp only [ly]
      refine tkJ 13 18 hS2 ?_; simp only [ly]
      refine tkJ 14 19 hS2 ?_; simp only [ly]
      refine tkL 15 20 hS2 ?h ?_; case h => (intro W hW; have e0 := bcell hW c0; have e1 := bcell hW c1; have e2 := bcell hW c2; clear hW; go_simp; try rfl); simp only [ly]
      refine tkJ 17 22 hS2 ?_; simp only [ly]
      refine tkJ 18 23 hS2 ?_; simp only [ly]
      refine tkL 19 24 hS2 ?h ?_; case h => (intro W hW; have e0 := bcell hW c0; have e1 := bcell hW c1; have e2 := bcell hW c2; clear hW; go_simp; try rfl); simp only [ly]
      refine tkJ 20 25 hS2 ?_; simp only [ly]
      refine wpAnyH_ready (rs := [16]) (by kernel_rfl) (by simp) ?_
      refine AllReadyH.cons rfl (fun K hK => ?_) AllReadyH.nil
      go_simp
      refine (HG.out _ (NU.out.below hS2)).mono ?_
      rintro e w' ⟨rfl, hb⟩
      try go_wp2_with fail
      refine hK.out _ _ ?hs64 (fun hS3 => ?_)
      case hs64 => exact bel_next hS2 hb
      clear hK K
      try simp only [ly]
      refine tkJ 21 26 hS3 ?_; simp only [ly]
      refine tkJ 22 27 hS3 ?_; simp only [ly]
      refine wpAnyH_done (by kernel_rfl) ?_ _
      have c3 := bcell hS3 c3
      go_wp2
      go_ret
      exact ⟨ret_int (errE HX.out), bel_next HU.out hS3⟩
     ·replace HA := hide (HA.out (by have := hln.out; omega))
      have HA2 : Hid ((l.drop 0).all mayF = mayE ((r, s), c, l)) := by unfold Hid; rw [HA.out]; rfl
      clear HA
      generalize mayE ((r, s), c, l) = b at HA2 ⊢
      go_enter Tryz.func49, Tryz.ntmps49
      go_wp2
      generalize hu : w.alloc (bxE r s pa na ca pe ne ce) = u at *
      clear hu
      refine wp_region_held_drew (S := fun W => Below u.heap.size u W) (by kernel_rfl) ((Below.refl _ u).drew) (fun hS0 => ?_)
      refine tkJ 0 5 hS0 ?_; simp only [ly]
      refine tkL 1 6 hS0 ?h ?_; case h => (intro W hW; have e0 := bcell hW c0; have e1 := bcell hW c1; have e2 := bcell hW c2; clear hW; go_simp; try rfl); simp only [ly]
      refine wpAnyH_ready (rs := [2]) (by kernel_rfl) (by simp) ?_
      refine AllReadyH.cons rfl (fun K hK => ?_) AllReadyH.nil
      go_simp
      refine (HM.out _).mono ?_
      rintro e w' ⟨rfl, hg⟩
      have hb := hg.bel
      clear hg
      try go_wp2_with fail
      refine hK.out _ _ ?hs69 (fun hS1 => ?_)
      case hs69 => exact bel_next hS0 hb
      clear hK K
      try simp only [ly]
      refine tkJ 3 8 hS1 ?_; simp only [ly]
      refine tkJ 4 9 hS1 ?_; simp only [ly]
      refine tkJ 5 10 hS1 ?_; simp only [ly]
      refine tkL 6 11 hS1 ?h ?_; case h => (intro W hW; have e0 := bcell hW c0; have e1 := bcell hW c1; have e2 := bcell hW c2; clear hW; go_simp; try rfl); simp only [ly]
      refine wpAnyH_ready (rs := [7]) (by kernel_rfl) (by simp) ?_
      refine AllReadyH.cons rfl (fun K hK => ?_) AllReadyH.nil
      go_simp
      refine (HP.out _ (NU.out.below hS1)).mono ?_
      rintro e w' ⟨rfl, hb⟩
      try go_wp2_with fail
      refine hK.out _ _ ?hs74 (fun hS2 => ?_)
      case hs74 => exact bel_next hS1 hb
      clear hK K
      try simp only [ly]
      refine tkJ 8 13 hS2 ?_; simp only [ly]
      refine tkJ 9 14 hS2 ?_; simp only [ly]
      refine tkJ 10 15 hS2 ?_; simp only [ly]
      refine tkJ 11 16 hS2 ?_; simp only [ly]
      refine tkL 12 17 hS2 ?h ?_; case h => (intro W hW; have e0 := bcell hW c0; have e1 := bcell hW c1; have e2 := bcell hW c2; clear hW; go_simp; try rfl); simp only [ly]
      refine tkJ 13 18 hS2 ?_; simp only [ly]
      refine tkJ 14 19 hS2 ?_; simp only [ly]
      refine tkL 15 20 hS2 ?h ?_; case h => (intro W hW; have e0 := bcell hW c0; have e1 := bcell hW c1; have e2 := bcell hW c2; clear hW; go_simp; try rfl); simp only [ly]
      refine tkJ 17 22 hS2 ?_; simp only [ly]
      refine tkJ 18 23 hS2 ?_; simp only [ly]
      refine tkL 19 24 hS2 ?h ?_; case h => (intro W hW; have e0 := bcell hW c0; have e1 := bcell hW c1; have e2 := bcell hW c2; clear hW; go_simp; try rfl); simp only [ly]
      refine tkJ 20 25 hS2 ?_; simp only [ly]
      refine wpAnyH_ready (rs := [16]) (by kernel_rfl) (by simp) ?_
      refine AllReadyH.cons rfl (fun K hK => ?_) AllReadyH.nil
      go_simp
      refine (HG.out _ (NU.out.below hS2)).mono ?_
      rintro e w' ⟨rfl, hb⟩
      try go_wp2_with fail
      refine hK.out _ _ ?hs87 (fun hS3 => ?_)
      case hs87 => exact bel_next hS2 hb
      clear hK K
      try simp only [ly]
      refine tkJ 21 26 hS3 ?_; simp only [ly]
      refine tkJ 22 27 hS3 ?_; simp only [ly]
      refine wpAnyH_done (by kernel_rfl) ?_ _
      have c3 := bcell hS3 c3
      have HV := hide (bel_next HU.out hS3)
      have EV := hide (EU.out.below hS3)
      clear HU EU NU HM HP HG c0 c1 c2 hS3
      go_wp2
      go_loopw [41] (fun i wr => ∃ k : Nat, k ≤ ne ∧ i = .int .i64 k ∧ Hid (Below w'.heap.size w' wr) ∧ Hid ((l.drop k).all mayF = b)) (fun i _ => ne - (intOf i).toNat)
      case atStart => exact ⟨0, by omega, rfl, Below.refl _ _, HA2⟩
      case round =>
       obtain ⟨k, hk, rfl, hB, hA⟩ := hrel
       by_cases hlt : k < ne
       ·have hxx : ∃ x, l[k]? = some x := ⟨_, List.getElem?_eq_getElem (by rw [hln.out]; exact hlt)⟩
        obtain ⟨x, hx⟩ := hxx
        rcases EV.out.1.2.2 with h0 | ⟨bb, off, rfl, _⟩
        ·omega
        ·obtain ⟨x0, x1, x2, x3, x4, x5⟩ := EV.out.at k x hx
         replace x0 := bcell hB.out x0
         replace x1 := bcell hB.out x1
         replace x2 := bcell hB.out x2
         replace x3 := bcell hB.out x3
         replace x4 := bcell hB.out x4
         replace x5 := bcell hB.out x5
         have HD : Hid ((mayF x && (l.drop (k + 1)).all mayF) = b) := by unfold Hid; rw [← allF_drop hx]; exact hA.out
         have HS := hide (mayF_S x)
         clear hx hA
         obtain ⟨xk, xo, xky, xn, xt, xw⟩ := x
         have HCE := hide (fun W => CheckEffect_any xk xo xn xt (strOfNums xky) (strOfNums xw) (mayF (xk, xo, xky, xn, xt, xw)) HS.out.symm W)
         clear HS
         generalize strOfNums xky = sk at *
         generalize strOfNums xw = sw at *
         have HBX := hide (bel_next hB.out (bel1 wr (bxF xk xo xn xt sk sw)))
         rcases hm : mayF (xk, xo, xky, xn, xt, xw) with _ | _
         ·rw [hm] at HCE HD
          have HX : Hid (b = false) := by unfold Hid; rw [← HD.out]; rfl
          clear hm HD
          go_wp2_with (go_at_call 116; refine (HCE.out _).mono ?_; rintro e w' ⟨rfl, hg⟩; change Gr _ _ at hg)
          go_ret
          exact ⟨ret_int (errE HX.out), bel_next HV.out (bel_next HBX.out hg.bel)⟩
         ·rw [hm] at HCE HD
          clear hm
          go_wp2_with (go_at_call 116; refine (HCE.out _).mono ?_; rintro e w' ⟨rfl, hg⟩)
          go_roundw
          case rel => exact ⟨k + 1, by omega, by go_num, bel_next HBX.out hg.bel, HD⟩
          case measure => simp [intOf]; omega
       ·have hkl : k = ne := by omega
        subst hkl
        have HX : Hid (b = true) := by
         have h2 := hA.out
         rw [List.drop_of_length_le (by rw [hln.out]; exact Nat.le_refl _)] at h2
         unfold Hid; rw [← h2]; rfl
        clear hA
        go_wp2
        go_ret
        exact ⟨ret_int (errE0 HX.out), bel_next HV.out hB.out⟩
   ·have HX := hide (not_may3 (l := l) (by rw [hz]; exact hq))
    rw [hd] at HM
    rw [hp] at HP
    rw [hz] at HG
    have hq1 : (z == s - 1) = false := by simpa using hq
    have hq2 : (z != s - 1) = true := by simp [hq]
    have hwr : IntKind.i64.wrap (s - 1) = s - 1 := wrap_s d3 d4
    clear hd hp hz hq EU
    go_enter Tryz.func49, Tryz.ntmps49
    go_wp2
    generalize hu : w.alloc (bxE r s pa na ca pe ne ce) = u at *
    clear hu
    refine wp_region_held_drew (S := fun W => Below u.heap.size u W) (by kernel_rfl) ((Below.refl _ u).drew) (fun hS0 => ?_)
    refine tkJ 0 5 hS0 ?_; simp only [ly]
    refine tkL 1 6 hS0 ?h ?_; case h => (intro W hW; have e0 := bcell hW c0; have e1 := bcell hW c1; have e2 := bcell hW c2; clear hW; go_simp; try rfl); simp only [ly]
    refine wpAnyH_ready (rs := [2]) (by kernel_rfl) (by simp) ?_
    refine AllReadyH.cons rfl (fun K hK => ?_) AllReadyH.nil
    go_simp
    refine (HM.out _).mono ?_
    rintro e w' ⟨rfl, hg⟩
    have hb := hg.bel
    clear hg
    try go_wp2_with fail
    refine hK.out _ _ ?hs92 (fun hS1 => ?_)
    case hs92 => exact bel_next hS0 hb
    clear hK K
    try simp only [ly]
    refine tkJ 3 8 hS1 ?_; simp only [ly]
    refine tkJ 4 9 hS1 ?_; simp only [ly]
    refine tkJ 5 10 hS1 ?_; simp only [ly]
    refine tkL 6 11 hS1 ?h ?_; case h => (intro W hW; have e0 := bcell hW c0; have e1 := bcell hW c1; have e2 := bcell hW c2; clear hW; go_simp; try rfl); simp only [ly]
    refine wpAnyH_ready (rs := [7]) (by kernel_rfl) (by simp) ?_
    refine AllReadyH.cons rfl (fun K hK => ?_) AllReadyH.nil
    go_simp
    refine (HP.out _ (NU.out.below hS1)).mono ?_
    rintro e w' ⟨rfl, hb⟩
    try go_wp2_with fail
    refine hK.out _ _ ?hs97 (fun hS2 => ?_)
    case hs97 => exact bel_next hS1 hb
    clear hK K
    try simp only [ly]
    refine tkJ 8 13 hS2 ?_; simp only [ly]
    refine tkJ 9 14 hS2 ?_; simp only [ly]
    refine tkJ 10 15 hS2 ?_; simp only [ly]
    refine tkJ 11 16 hS2 ?_; simp only [ly]
    refine tkL 12 17 hS2 ?h ?_; case h => (intro W hW; have e0 := bcell hW c0; have e1 := bcell hW c1; have e2 := bcell hW c2; clear hW; go_simp; try rfl); simp only [ly]
    refine tkJ 13 18 hS2 ?_; simp only [ly]
    refine tkJ 14 19 hS2 ?_; simp only [ly]
    refine tkL 15 20 hS2 ?h ?_; case h => (intro W hW; have e0 := bcell hW c0; have e1 := bcell hW c1; have e2 := bcell hW c2; clear hW; go_simp; try rfl); simp only [ly]
    refine tkJ 17 22 hS2 ?_; simp only [ly]
    refine tkJ 18 23 hS2 ?_; simp only [ly]
    refine tkL 19 24 hS2 ?h ?_; case h => (intro W hW; have e0 := bcell hW c0; have e1 := bcell hW c1; have e2 := bcell hW c2; clear hW; go_simp; try rfl); simp only [ly]
    refine tkJ 20 25 hS2 ?_; simp only [ly]
    refine wpAnyH_ready (rs := [16]) (by kernel_rfl) (by simp) ?_
    refine AllReadyH.cons rfl (fun K hK => ?_) AllReadyH.nil
    go_simp
    refine (HG.out _ (NU.out.below hS2)).mono ?_
    rintro e w' ⟨rfl, hb⟩
    try go_wp2_with fail
    refine hK.out _ _ ?hs110 (fun hS3 => ?_)
    case hs110 => exact bel_next hS2 hb
    clear hK K
    try simp only [ly]
    refine tkJ 21 26 hS3 ?_; simp only [ly]
    refine tkJ 22 27 hS3 ?_; simp only [ly]
    refine wpAnyH_done (by kernel_rfl) ?_ _
    go_wp2
    go_ret
    exact ⟨ret_int (errE HX.out), bel_next HU.out hS3⟩
end Go.Proofs.YtkbbegbpkndebaaGreat

namespace Go.Proofs.YtkbbegbpkndebaaGreat
open Go.RowKit Go.ChangeShapes Go.WideShapes
set_option linter.unusedVariables false
section
variable {H : Type} {enc : TypeId × Value → H} {W : World}
end
end Go.Proofs.YtkbbegbpkndebaaGreat

