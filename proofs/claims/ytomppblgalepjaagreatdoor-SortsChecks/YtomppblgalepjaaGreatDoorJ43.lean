/- Texts of this claim, joined: OM. -/
import Derived.Test.YtomppblgalepjaaGreatDoorJ33
/- Whether rules are alike (the program's, layer 16). -/
namespace Go.Proofs.YtomppblgalepjaaGreatDoor
open Go.RowKit Go.Lib
set_option linter.unusedVariables false
set_option maxRecDepth 2000 in
set_option maxHeartbeats 4000000 in
theorem eqSSt (b : Bool) (a : Option Addr) (n cap : Nat) (l : List ByteArray) (a' : Option Addr) (n' cap' : Nat) (l' : List ByteArray) (hb : b = true ↔ l = l') (w : World) (hA : RS encSt 1 w a n l) (hA' : RS encSt 1 w a' n' l') (hn : n ≤ 100000) (hn' : n' ≤ 100000) : Calls Tryz.prog 31 #[.slice a n cap, .slice a' n' cap'] w fun e w' => e = .returned (.bool b) ∧ Below w.heap.size w w' := by
 have HB : Hid (Below w.heap.size w w) := Below.refl _ _
 have HA := hide hA
 have HA' := hide hA'
 have HBB := hide hb
 have hln : l.length = n := hA.1
 have hln' : l'.length = n' := hA'.1
 clear hA hA' hb
 by_cases hnn : n = n'
 ·subst hnn
  go_enter Tryz.func31, Tryz.ntmps31
  go_wp2
  go_loopw [13] (fun v wr => ∃ j : Nat, j ≤ n ∧ v = .int .i64 j ∧ Hid (l.take j = l'.take j) ∧ Hid (RS encSt 1 wr a n l) ∧ Hid (RS encSt 1 wr a' n l') ∧ Hid (Below w.heap.size w wr)) (fun v _ => n - (RowKit.intOf v).toNat)
  case atStart => exact ⟨0, by omega, rfl, (show _ = _ by simp), HA, HA', HB⟩
  case round =>
   clear HA HA' HB
   obtain ⟨j, hj, rfl, HF, HA, HA', HB⟩ := hrel
   by_cases hlt : j < n
   ·have hx : l[j]? = some (l[j]'(by omega)) := List.getElem?_eq_getElem (by omega)
    have hy : l'[j]? = some (l'[j]'(by omega)) := List.getElem?_eq_getElem (by omega)
    generalize l[j]'(by omega) = x at hx
    generalize l'[j]'(by omega) = y at hy
    obtain ⟨b1, o1, rfl, hcc⟩ := rs_cells HA.out (by omega)
    obtain ⟨b2, o2, rfl, hdd⟩ := rs_cells HA'.out (by omega)
    have c0 := hcc j x hx 0 _ rfl
    have d0 := hdd j y hy 0 _ rfl
    simp only [Nat.mul_one, Nat.add_zero] at c0 d0
    have hk0 : (0 : Int) ≤ (j : Int) := by omega
    have hk1 : (j : Int) < (n : Int) := by omega
    have HX := hide hx
    have HY := hide hy
    clear hx hy hcc hdd hln hln'
    have hq := eqK x y
    by_cases he : x = y
    ·subst he
     rw [decide_eq_true rfl] at hq
     have HF2 : Hid (l.take (j + 1) = l'.take (j + 1)) := by unfold Hid; rw [takeG_snoc HX.out, takeG_snoc HY.out, HF.out]
     clear HX HY HF
     go_upto_region 6 with fail
     go_region
     go_wp2
     go_roundw
     case rel => exact ⟨j + 1, by omega, by go_num, HF2, hide (HA.out.below (Below.refl _ wr).drew), hide (HA'.out.below (Below.refl _ wr).drew), hide HB.out.drew⟩
     case measure => simp [RowKit.intOf] <;> omega
    ·rw [decide_eq_false he] at hq
     have HNO : Hid (b = false) := by
      cases b
      ·rfl
      ·exfalso
       have q := HBB.out.1 rfl
       have h1 := HX.out
       rw [q, HY.out] at h1
       exact he (Option.some.inj h1).symm
     clear HX HY HF
     go_upto_region 6 with fail
     go_region
     go_wp2
     go_ret
     exact ⟨by rw [HNO.out]; rfl, HB.out.drew⟩
   ·obtain rfl : j = n := by omega
    have HE : Hid (b = true) := by
     have e := HF.out
     rw [List.take_of_length_le (by omega), List.take_of_length_le (by omega)] at e
     exact HBB.out.2 e
    clear HF hln hln'
    go_wp2
    go_ret
    exact ⟨by rw [HE.out]; rfl, HB.out⟩
 ·have q6 : ((n : Int) != (n' : Int)) = true := by simp; omega
  have HNO : Hid (b = false) := by
   cases b
   ·rfl
   ·exfalso
    have q := HBB.out.1 rfl
    exact hnn (by rw [← hln, ← hln', q])
  clear hnn hln hln'
  go_enter Tryz.func31, Tryz.ntmps31
  go_wp2
  go_ret
  exact ⟨by rw [HNO.out]; rfl, HB.out⟩
set_option maxRecDepth 2000 in
set_option maxHeartbeats 4000000 in
theorem eqSDg (b : Bool) (a : Option Addr) (n cap : Nat) (l : List Dg) (a' : Option Addr) (n' cap' : Nat) (l' : List Dg) (hb : b = true ↔ l = l') (w : World) (hA : RS encDg 3 w a n l) (hA' : RS encDg 3 w a' n' l') (hn : n ≤ 100000) (hn' : n' ≤ 100000) : Calls Tryz.prog 51 #[.slice a n cap, .slice a' n' cap'] w fun e w' => e = .returned (.bool b) ∧ Below w.heap.size w w' := by
 have HB : Hid (Below w.heap.size w w) := Below.refl _ _
 have HA := hide hA
 have HA' := hide hA'
 have HBB := hide hb
 have hln : l.length = n := hA.1
 have hln' : l'.length = n' := hA'.1
 clear hA hA' hb
 by_cases hnn : n = n'
 ·subst hnn
  go_enter Tryz.func51, Tryz.ntmps51
  go_wp2
  go_loopw [13] (fun v wr => ∃ j : Nat, j ≤ n ∧ v = .int .i64 j ∧ Hid (l.take j = l'.take j) ∧ Hid (RS encDg 3 wr a n l) ∧ Hid (RS encDg 3 wr a' n l') ∧ Hid (Below w.heap.size w wr)) (fun v _ => n - (RowKit.intOf v).toNat)
  case atStart => exact ⟨0, by omega, rfl, (show _ = _ by simp), HA, HA', HB⟩
  case round =>
   clear HA HA' HB
   obtain ⟨j, hj, rfl, HF, HA, HA', HB⟩ := hrel
   by_cases hlt : j < n
   ·have hx : l[j]? = some (l[j]'(by omega)) := List.getElem?_eq_getElem (by omega)
    have hy : l'[j]? = some (l'[j]'(by omega)) := List.getElem?_eq_getElem (by omega)
    generalize l[j]'(by omega) = x at hx
    generalize l'[j]'(by omega) = y at hy
    obtain ⟨b1, o1, rfl, hcc⟩ := rs_cells HA.out (by omega)
    obtain ⟨b2, o2, rfl, hdd⟩ := rs_cells HA'.out (by omega)
    have c0 := hcc j x hx 0 _ rfl
    have d0 := hdd j y hy 0 _ rfl
    have c1 := hcc j x hx 1 _ rfl
    have d1 := hdd j y hy 1 _ rfl
    have c2 := hcc j x hx 2 _ rfl
    have d2 := hdd j y hy 2 _ rfl
    simp only [Nat.add_zero] at c0 d0
    have hk0 : (0 : Int) ≤ (j : Int) := by omega
    have hk1 : (j : Int) < (n : Int) := by omega
    have HX := hide hx
    have HY := hide hy
    clear hx hy hcc hdd hln hln'
    obtain ⟨x0, x1, x2⟩ := x
    obtain ⟨y0, y1, y2⟩ := y
    simp only at c0 c1 c2 d0 d1 d2
    by_cases e0 : x0 = y0
    ·subst e0
     by_cases e1 : x1 = y1
     ·subst e1
      by_cases e2 : x2 = y2
      ·subst e2
       have HF2 : Hid (l.take (j + 1) = l'.take (j + 1)) := by unfold Hid; rw [takeG_snoc HX.out, takeG_snoc HY.out, HF.out]
       clear HX HY HF
       go_upto_region 6 with fail
       go_region
       go_wp2
       go_roundw
       case rel => exact ⟨j + 1, by omega, by go_num, HF2, hide (HA.out.below (Below.refl _ wr).drew), hide (HA'.out.below (Below.refl _ wr).drew), hide HB.out.drew⟩
       case measure => simp [RowKit.intOf] <;> omega
      ·have HNO : Hid (b = false) := by
        cases b
        ·rfl
        ·exfalso
         have q := HBB.out.1 rfl
         have h1 := HX.out
         rw [q, HY.out] at h1
         cases h1; exact e2 rfl
       clear HX HY HF
       go_upto_region 6 with fail
       go_region
       go_wp2
       go_ret
       exact ⟨by rw [HNO.out]; rfl, HB.out.drew⟩
     ·have HNO : Hid (b = false) := by
       cases b
       ·rfl
       ·exfalso
        have q := HBB.out.1 rfl
        have h1 := HX.out
        rw [q, HY.out] at h1
        cases h1; exact e1 rfl
      clear HX HY HF
      go_upto_region 6 with fail
      go_region
      go_wp2
      go_ret
      exact ⟨by rw [HNO.out]; rfl, HB.out.drew⟩
    ·have HNO : Hid (b = false) := by
      cases b
      ·rfl
      ·exfalso
       have q := HBB.out.1 rfl
       have h1 := HX.out
       rw [q, HY.out] at h1
       cases h1; exact e0 rfl
     clear HX HY HF
     go_upto_region 6 with fail
     go_region
     go_wp2
     go_ret
     exact ⟨by rw [HNO.out]; rfl, HB.out.drew⟩
   ·obtain rfl : j = n := by omega
    have HE : Hid (b = true) := by
     have e := HF.out
     rw [List.take_of_length_le (by omega), List.take_of_length_le (by omega)] at e
     exact HBB.out.2 e
    clear HF hln hln'
    go_wp2
    go_ret
    exact ⟨by rw [HE.out]; rfl, HB.out⟩
 ·have q6 : ((n : Int) != (n' : Int)) = true := by simp; omega
  have HNO : Hid (b = false) := by
   cases b
   ·rfl
   ·exfalso
    have q := HBB.out.1 rfl
    exact hnn (by rw [← hln, ← hln', q])
  clear hnn hln hln'
  go_enter Tryz.func51, Tryz.ntmps51
  go_wp2
  go_ret
  exact ⟨by rw [HNO.out]; rfl, HB.out⟩
set_option maxRecDepth 2000 in
set_option maxHeartbeats 4000000 in
theorem eqSCl (b : Bool) (a : Option Addr) (n cap : Nat) (l : List Cl) (a' : Option Addr) (n' cap' : Nat) (l' : List Cl) (hb : b = true ↔ l = l') (w : World) (hA : RS encCl 5 w a n l) (hA' : RS encCl 5 w a' n' l') (hn : n ≤ 100000) (hn' : n' ≤ 100000) : Calls Tryz.prog 32 #[.slice a n cap, .slice a' n' cap'] w fun e w' => e = .returned (.bool b) ∧ Below w.heap.size w w' := by
 have HB : Hid (Below w.heap.size w w) := Below.refl _ _
 have HA := hide hA
 have HA' := hide hA'
 have HBB := hide hb
 have hln : l.length = n := hA.1
 have hln' : l'.length = n' := hA'.1
 clear hA hA' hb
 by_cases hnn : n = n'
 ·subst hnn
  go_enter Tryz.func32, Tryz.ntmps32
  go_wp2
  go_loopw [13] (fun v wr => ∃ j : Nat, j ≤ n ∧ v = .int .i64 j ∧ Hid (l.take j = l'.take j) ∧ Hid (RS encCl 5 wr a n l) ∧ Hid (RS encCl 5 wr a' n l') ∧ Hid (Below w.heap.size w wr)) (fun v _ => n - (RowKit.intOf v).toNat)
  case atStart => exact ⟨0, by omega, rfl, (show _ = _ by simp), HA, HA', HB⟩
  case round =>
   clear HA HA' HB
   obtain ⟨j, hj, rfl, HF, HA, HA', HB⟩ := hrel
   by_cases hlt : j < n
   ·have hx : l[j]? = some (l[j]'(by omega)) := List.getElem?_eq_getElem (by omega)
    have hy : l'[j]? = some (l'[j]'(by omega)) := List.getElem?_eq_getElem (by omega)
    generalize l[j]'(by omega) = x at hx
    generalize l'[j]'(by omega) = y at hy
    obtain ⟨b1, o1, rfl, hcc⟩ := rs_cells HA.out (by omega)
    obtain ⟨b2, o2, rfl, hdd⟩ := rs_cells HA'.out (by omega)
    have c0 := hcc j x hx 0 _ rfl
    have d0 := hdd j y hy 0 _ rfl
    have c1 := hcc j x hx 1 _ rfl
    have d1 := hdd j y hy 1 _ rfl
    have c2 := hcc j x hx 2 _ rfl
    have d2 := hdd j y hy 2 _ rfl
    have c3 := hcc j x hx 3 _ rfl
    have d3 := hdd j y hy 3 _ rfl
    have c4 := hcc j x hx 4 _ rfl
    have d4 := hdd j y hy 4 _ rfl
    simp only [Nat.add_zero] at c0 d0
    have hk0 : (0 : Int) ≤ (j : Int) := by omega
    have hk1 : (j : Int) < (n : Int) := by omega
    have HX := hide hx
    have HY := hide hy
    clear hx hy hcc hdd hln hln'
    obtain ⟨x0, x1, x2, x3, x4⟩ := x
    obtain ⟨y0, y1, y2, y3, y4⟩ := y
    simp only at c0 d0 c1 d1 c2 d2 c3 d3 c4 d4
    by_cases e0 : x0 = y0
    ·subst e0
     by_cases e1 : x1 = y1
     ·subst e1
      by_cases e2 : x2 = y2
      ·subst e2
       by_cases e3 : x3 = y3
       ·subst e3
        by_cases e4 : x4 = y4
        ·subst e4
         have HF2 : Hid (l.take (j + 1) = l'.take (j + 1)) := by unfold Hid; rw [takeG_snoc HX.out, takeG_snoc HY.out, HF.out]
         clear HX HY HF
         go_upto_region 6 with fail
         go_region
         go_wp2
         go_roundw
         case rel => exact ⟨j + 1, by omega, by go_num, HF2, hide (HA.out.below (Below.refl _ wr).drew), hide (HA'.out.below (Below.refl _ wr).drew), hide HB.out.drew⟩
         case measure => simp [RowKit.intOf] <;> omega
        ·have HNO : Hid (b = false) := by
          cases b
          ·rfl
          ·exfalso
           have q := HBB.out.1 rfl
           have h1 := HX.out
           rw [q, HY.out] at h1
           cases h1; exact e4 rfl
         clear HX HY HF
         go_upto_region 6 with fail
         go_region
         go_wp2
         go_ret
         exact ⟨by rw [HNO.out]; rfl, HB.out.drew⟩
       ·have HNO : Hid (b = false) := by
         cases b
         ·rfl
         ·exfalso
          have q := HBB.out.1 rfl
          have h1 := HX.out
          rw [q, HY.out] at h1
          cases h1; exact e3 rfl
        clear HX HY HF
        go_upto_region 6 with fail
        go_region
        go_wp2
        go_ret
        exact ⟨by rw [HNO.out]; rfl, HB.out.drew⟩
      ·have HNO : Hid (b = false) := by
        cases b
        ·rfl
        ·exfalso
         have q := HBB.out.1 rfl
         have h1 := HX.out
         rw [q, HY.out] at h1
         cases h1; exact e2 rfl
       clear HX HY HF
       go_upto_region 6 with fail
       go_region
       go_wp2
       go_ret
       exact ⟨by rw [HNO.out]; rfl, HB.out.drew⟩
     ·have HNO : Hid (b = false) := by
       cases b
       ·rfl
       ·exfalso
        have q := HBB.out.1 rfl
        have h1 := HX.out
        rw [q, HY.out] at h1
        cases h1; exact e1 rfl
      clear HX HY HF
      go_upto_region 6 with fail
      go_region
      go_wp2
      go_ret
      exact ⟨by rw [HNO.out]; rfl, HB.out.drew⟩
    ·have HNO : Hid (b = false) := by
      cases b
      ·rfl
      ·exfalso
       have q := HBB.out.1 rfl
       have h1 := HX.out
       rw [q, HY.out] at h1
       cases h1; exact e0 rfl
     clear HX HY HF
     go_upto_region 6 with fail
     go_region
     go_wp2
     go_ret
     exact ⟨by rw [HNO.out]; rfl, HB.out.drew⟩
   ·obtain rfl : j = n := by omega
    have HE : Hid (b = true) := by
     have e := HF.out
     rw [List.take_of_length_le (by omega), List.take_of_length_le (by omega)] at e
     exact HBB.out.2 e
    clear HF hln hln'
    go_wp2
    go_ret
    exact ⟨by rw [HE.out]; rfl, HB.out⟩
 ·have q6 : ((n : Int) != (n' : Int)) = true := by simp; omega
  have HNO : Hid (b = false) := by
   cases b
   ·rfl
   ·exfalso
    have q := HBB.out.1 rfl
    exact hnn (by rw [← hln, ← hln', q])
  clear hnn hln hln'
  go_enter Tryz.func32, Tryz.ntmps32
  go_wp2
  go_ret
  exact ⟨by rw [HNO.out]; rfl, HB.out⟩
set_option maxHeartbeats 4000000 in
theorem sameOp16 (b : Bool) (s s' : ByteArray) (a a' : Option Addr) (n n' c c' : Nat) (l l' : List Dg) (hb : b = true ↔ (s, l) = (s', l')) (w : World) (hl : RS encDg 3 w a n l) (hl' : RS encDg 3 w a' n' l') (hn : n ≤ 100000) (hn' : n' ≤ 100000) :
  Calls Tryz.prog 34 #[.agg #[.string s, .slice a n c], .agg #[.string s', .slice a' n' c']] w fun e w' => e = .returned (.bool b) ∧ Below w.heap.size w w' := by
 have hq := eqK s s'
 by_cases he : s = s'
 ·subst he
  rw [decide_eq_true rfl] at hq
  have HD := hide (eqSDg b a n c l a' n' c' l' (hb.trans ⟨fun h => (Prod.mk.inj h).2, fun h => by rw [h]⟩) ((w.alloc (.cells #[.string s, .slice a n c] 56)).alloc (.cells #[.string s, .slice a' n' c'] 56)) ((hl.alloc _).alloc _) ((hl'.alloc _).alloc _) hn hn')
  have HB := hide (bel2 w (.cells #[.string s, .slice a n c] 56) (.cells #[.string s, .slice a' n' c'] 56))
  clear hl hl' hb
  go_enter Tryz.func34, Tryz.ntmps34
  go_wp2_with (go_at_call 51; refine HD.out.mono ?_; rintro e w1 ⟨rfl, hb⟩; replace HB := hide (bel_next HB.out hb); clear hb)
  go_ret
  exact ⟨rfl, HB.out⟩
 ·rw [decide_eq_false he] at hq
  have HB := hide (bel2 w (.cells #[.string s, .slice a n c] 56) (.cells #[.string s', .slice a' n' c'] 56))
  have HNO : Hid (b = false) := by
   cases b
   ·rfl
   ·exact absurd (Prod.mk.inj (hb.1 rfl)).1 he
  clear hl hl' hb he
  go_enter Tryz.func34, Tryz.ntmps34
  go_wp2
  go_ret
  exact ⟨by rw [HNO.out]; rfl, HB.out⟩
set_option maxHeartbeats 4000000 in
theorem eqSOp (b : Bool) (a : Option Addr) (n cap : Nat) (l : List Op) (a' : Option Addr) (n' cap' : Nat) (l' : List Op) (hb : b = true ↔ l = l') (w : World) (hA : SF 2 ROp w a n l) (hA' : SF 2 ROp w a' n' l') (hn : n ≤ 100000) (hn' : n' ≤ 100000) (hd1 : ∀ o ∈ l, o.2.length ≤ 100000) (hd2 : ∀ o ∈ l', o.2.length ≤ 100000) :
  Calls Tryz.prog 33 #[.slice a n cap, .slice a' n' cap', .func (.func 34) #[] #[]] w fun e w' => e = .returned (.bool b) ∧ Below w.heap.size w w' := by
 have HB : Hid (Below w.heap.size w w) := Below.refl _ _
 have HA := hide hA
 have HA' := hide hA'
 have HBB := hide hb
 have HD1 := hide hd1
 have HD2 := hide hd2
 have hln : l.length = n := hA.len
 have hln' : l'.length = n' := hA'.len
 clear hA hA' hb hd1 hd2
 by_cases hnn : n = n'
 ·subst hnn
  go_enter Tryz.func33, Tryz.ntmps33
  go_wp2
  go_loopw [17] (fun v wr => ∃ j : Nat, j ≤ n ∧ v = .int .i64 j ∧ Hid (l.take j = l'.take j) ∧ Hid (Below w.heap.size w wr)) (fun v _ => n - (RowKit.intOf v).toNat)
  case atStart => exact ⟨0, by omega, rfl, (show _ = _ by simp), HB⟩
  case round =>
   clear HB
   obtain ⟨j, hj, rfl, HF, HB⟩ := hrel
   by_cases hlt : j < n
   ·obtain ⟨bp, off, ha⟩ := HA.out.addr (show 0 < n by omega)
    obtain ⟨bq, of2, ha'⟩ := HA'.out.addr (show 0 < n by omega)
    subst ha ha'
    obtain ⟨⟨s, ds⟩, p, co, hx, hr, hcp, s0, s1⟩ := SF.op HA.out j hlt
    obtain ⟨⟨s', ds'⟩, p', co', hy, hr', hcp', z0, z1⟩ := SF.op HA'.out j hlt
    simp only at s0 s1 z0 z1 hr hr' hcp hcp'
    replace s0 := bcell HB.out s0
    replace s1 := bcell HB.out s1
    replace z0 := bcell HB.out z0
    replace z1 := bcell HB.out z1
    have hk0 : (0 : Int) ≤ (j : Int) := by omega
    have hk1 : (j : Int) < (n : Int) := by omega
    obtain ⟨m, hm⟩ : ∃ m, ds.length = m := ⟨_, rfl⟩
    obtain ⟨m', hm'⟩ : ∃ m', ds'.length = m' := ⟨_, rfl⟩
    rw [hm] at s1 hr
    rw [hm'] at z1 hr'
    have HMA := hide hm
    have HMB := hide hm'
    clear hcp hcp' hm hm' hln hln'
    by_cases heq : s = s' ∧ ds = ds'
    ·have HF2 : Hid (l.take (j + 1) = l'.take (j + 1)) := by unfold Hid; rw [takeG_snoc hx, takeG_snoc hy, HF.out, heq.1, heq.2]
     have HSO := hide (fun W (hW : Below w.heap.size w W) => sameOp16 true s s' p p' m m' co co' ds ds' (by simp [heq]) W (hr.below hW) (hr'.below hW) (by rw [← HMA.out]; exact HD1.out _ (List.mem_of_getElem? hx)) (by rw [← HMB.out]; exact HD2.out _ (List.mem_of_getElem? hy)))
     clear hx hy hr hr' heq
     have HBZ := hide (bel_next HB.out (bel2 wr (.cells #[.string s, .slice p m co] 56) (.cells #[.string s', .slice p' m' co'] 56)))
     have z0a := cell_old (.cells #[.string s, .slice p m co] 56) z0
     have z1a := cell_old (.cells #[.string s, .slice p m co] 56) z1
     go_upto_region 7 with fail
     go_wp2_with (go_at_call 34; refine (HSO.out _ HBZ.out).mono ?_; rintro e w1 ⟨rfl, hb⟩; replace HB := hide (bel_next HBZ.out hb); clear hb)
     go_roundw
     case rel => exact ⟨j + 1, by omega, by go_num, HF2.out, HB.out⟩
     case measure => simp [RowKit.intOf] <;> omega
    ·have HNO : Hid (b = false) := by
      cases b
      ·rfl
      ·exfalso
       have q := HBB.out.1 rfl
       rw [q, hy] at hx
       have q2 := Prod.mk.inj (Option.some.inj hx)
       exact heq ⟨q2.1.symm, q2.2.symm⟩
     have HSO := hide (fun W (hW : Below w.heap.size w W) => sameOp16 false s s' p p' m m' co co' ds ds' (by simpa using heq) W (hr.below hW) (hr'.below hW) (by rw [← HMA.out]; exact HD1.out _ (List.mem_of_getElem? hx)) (by rw [← HMB.out]; exact HD2.out _ (List.mem_of_getElem? hy)))
     clear hx hy hr hr' heq
     have HBZ := hide (bel_next HB.out (bel2 wr (.cells #[.string s, .slice p m co] 56) (.cells #[.string s', .slice p' m' co'] 56)))
     have z0a := cell_old (.cells #[.string s, .slice p m co] 56) z0
     have z1a := cell_old (.cells #[.string s, .slice p m co] 56) z1
     go_upto_region 7 with fail
     go_wp2_with (go_at_call 34; refine (HSO.out _ HBZ.out).mono ?_; rintro e w1 ⟨rfl, hb⟩; replace HB := hide (bel_next HBZ.out hb); clear hb)
     go_ret
     exact ⟨by rw [HNO.out]; rfl, HB.out⟩
   ·obtain rfl : j = n := by omega
    have HE : Hid (b = true) := by
     have e := HF.out
     rw [List.take_of_length_le (by omega), List.take_of_length_le (by omega)] at e
     exact HBB.out.2 e
    clear HF hln hln'
    go_wp2
    go_ret
    exact ⟨by rw [HE.out]; rfl, HB.out⟩
 ·have q6 : ((n : Int) != (n' : Int)) = true := by simp; omega
  have HNO : Hid (b = false) := by
   cases b
   ·rfl
   ·exfalso
    have q := HBB.out.1 rfl
    exact hnn (by rw [← hln, ← hln', q])
  clear hnn hln hln'
  go_enter Tryz.func33, Tryz.ntmps33
  go_wp2
  go_ret
  exact ⟨by rw [HNO.out]; rfl, HB.out⟩
end Go.Proofs.YtomppblgalepjaaGreatDoor

