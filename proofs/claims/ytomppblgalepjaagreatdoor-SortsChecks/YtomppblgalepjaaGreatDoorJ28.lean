/- Texts of this claim, joined: T2. -/
import Derived.Test.YtomppblgalepjaaGreatDoorJ27
/- What the document says of rules (layer 16): floors, names, lists. -/
namespace Go.Proofs.YtomppblgalepjaaGreatDoor
open Go.RowKit Go.Lib
set_option linter.unusedVariables false
set_option maxHeartbeats 4000000 in
theorem floors16 (a : Option Addr) (n cap : Nat) (l : List Cl) (w : World) (hA : RS encCl 5 w a n l) (hn : n ≤ 1000) : Calls Tryz.prog 24 #[.slice a n cap] w fun e w' => e = .returned (.bool (flB l)) ∧ Below w.heap.size w w' := by
 have hln : l.length = n := hA.1
 have HA := hide hA
 have HB : Hid (Below w.heap.size w w) := Below.refl _ _
 clear hA
 go_enter Tryz.func24, Tryz.ntmps24
 go_wp2
 go_loopw [3, 4] (fun v _ wr => ∃ i : Nat, i ≤ n ∧ v = .int .i64 i ∧ Hid (allN i (fl1 l) = true) ∧ Hid (RS encCl 5 wr a n l) ∧ Hid (Below w.heap.size w wr)) (fun v _ _ => n - (RowKit.intOf v).toNat)
 case atStart => exact ⟨0, by omega, rfl, rfl, HA, HB⟩
 case round =>
  clear HA HB
  obtain ⟨i, hi, rfl, HO, HA, HB⟩ := hrel
  by_cases hlt : i < n
  ·have hi0 : (0 : Int) ≤ (i : Int) := by omega
   have hi1 : (i : Int) < (n : Int) := by omega
   have hx : l[i]? = some (l[i]'(by omega)) := List.getElem?_eq_getElem (by omega)
   generalize l[i]'(by omega) = x at hx
   have hone : fl1 l i = allN i (fl2 l x) := by unfold fl1; rw [hx]
   go_wp2
   go_loopw [4] (fun v wr => ∃ k : Nat, k ≤ i ∧ v = .int .i64 k ∧ Hid (allN k (fl2 l x) = true) ∧ Hid (RS encCl 5 wr a n l) ∧ Hid (Below w.heap.size w wr)) (fun v _ => i - (RowKit.intOf v).toNat)
   case atStart => exact ⟨0, by omega, rfl, rfl, HA, HB⟩
   case round =>
    clear HA HB
    obtain ⟨k, hk, rfl, HF, HA, HB⟩ := hrel
    by_cases hkt : k < i
    ·have hk0 : (0 : Int) ≤ (k : Int) := by omega
     have hk1 : (k : Int) < (i : Int) := by omega
     have hk2 : (k : Int) < (n : Int) := by omega
     have hy : l[k]? = some (l[k]'(by omega)) := List.getElem?_eq_getElem (by omega)
     generalize l[k]'(by omega) = y at hy
     obtain ⟨b, off, rfl, hcc⟩ := rs_cells HA.out (by omega)
     have c0 := hcc i x hx 0 _ rfl
     have c2 := hcc i x hx 2 _ rfl
     have d0 := hcc k y hy 0 _ rfl
     have d2 := hcc k y hy 2 _ rfl
     simp only [Nat.add_zero] at c0 d0
     have hstep : allN (k + 1) (fl2 l x) = !(decide (x.1 = 8) && decide (y.1 = 8) && decide (x.2.2.1 = y.2.2.1)) := by
      rw [allN_succ, HF.out]
      unfold fl2
      rw [hy]
      rfl
     have hfar : (decide (x.1 = 8) && decide (y.1 = 8) && decide (x.2.2.1 = y.2.2.1)) = true → flB l = false := fun h => by
      refine allN_bad (i := i) (by omega) ?_
      rw [hone]
      refine allN_bad (i := k) hkt ?_
      unfold fl2
      rw [hy]
      simp only
      rw [h]
      rfl
     clear hcc hx hy hone HF
     obtain ⟨x0, xs, x2, xr⟩ := x
     obtain ⟨y0, ys, y2, yr⟩ := y
     simp only at c0 c2 d0 d2 hstep hfar
     by_cases e1 : x0 = 8
     ·by_cases e2 : y0 = 8
      ·by_cases e3 : x2 = y2
       ·have HK : Hid (flB l = false) := hfar (by rw [e1, e2, e3]; simp)
        subst e1 e2 e3
        clear hstep hfar
        go_upto_region 7 with fail
        go_region
        go_wp2
        go_ret
        exact ⟨by rw [HK.out]; rfl, HB.out.drew⟩
       ·have HF2 : Hid (allN (k + 1) (fl2 l (x0, xs, x2, xr)) = true) := hstep.trans (by rw [decide_eq_false e3]; simp)
        have e3b : (x2 == y2) = false := by simpa using e3
        subst e1 e2
        clear hstep hfar e3
        go_upto_region 7 with fail
        go_region
        go_wp2
        go_roundw
        case rel => exact ⟨k + 1, by omega, by go_num, HF2, hide (HA.out.below (Below.refl _ _).drew), hide HB.out.drew⟩
        case measure => simp [RowKit.intOf] <;> omega
      ·have HF2 : Hid (allN (k + 1) (fl2 l (x0, xs, x2, xr)) = true) := hstep.trans (by rw [decide_eq_false e2]; simp)
       have e2b : (y0 == 8) = false := by simpa using e2
       subst e1
       clear hstep hfar e2
       go_upto_region 7 with fail
       go_region
       go_wp2
       go_roundw
       case rel => exact ⟨k + 1, by omega, by go_num, HF2, hide (HA.out.below (Below.refl _ _).drew), hide HB.out.drew⟩
       case measure => simp [RowKit.intOf] <;> omega
     ·have HF2 : Hid (allN (k + 1) (fl2 l (x0, xs, x2, xr)) = true) := hstep.trans (by rw [decide_eq_false e1]; simp)
      have e1b : (x0 == 8) = false := by simpa using e1
      clear hstep hfar e1
      go_upto_region 7 with fail
      go_region
      go_wp2
      go_roundw
      case rel => exact ⟨k + 1, by omega, by go_num, HF2, hide (HA.out.below (Below.refl _ _).drew), hide HB.out.drew⟩
      case measure => simp [RowKit.intOf] <;> omega
    ·obtain rfl : k = i := by omega
     have HO2 : Hid (allN (k + 1) (fl1 l) = true) := by unfold Hid; rw [allN_succ, HO.out, hone, HF.out]; rfl
     clear hx hone HF HO
     go_wp2
     go_roundw
     case rel => exact ⟨k + 1, by omega, by go_num, HO2, HA, HB⟩
     case measure => simp [RowKit.intOf] <;> omega
  ·obtain rfl : i = n := by omega
   have HK : Hid (flB l = true) := by unfold Hid flB; rw [hln]; exact HO.out
   go_wp2
   go_ret
   exact ⟨by rw [HK.out]; rfl, HB.out⟩
theorem rs_take {α : Type} {enc : α → List Value} {k : Nat} {w : World} {a : Option Addr} {n : Nat} {l : List α} (h : RS enc k w a n l) (i : Nat) (hi : i ≤ n) : RS enc k w a i (l.take i) := by
 obtain ⟨h1, h2, h3⟩ := h
 refine ⟨by rw [List.length_take]; omega, by omega, ?_⟩
 rcases h3 with h0 | ⟨b, off, ha, hc⟩
 ·left; omega
 ·right
  refine ⟨b, off, ha, fun j x hx => hc j x ?_⟩
  rw [List.getElem?_take] at hx
  split at hx
  ·exact hx
  ·cases hx
theorem At16b (a : Option Addr) (n cap : Nat) (l : List ByteArray) (s : ByteArray) (w : World) (hA : RS encSt 1 w a n l) (hn : n ≤ 100000) : Calls Tryz.prog 20 #[.slice a n cap, .string s] w fun e w' => e = .returned (.int .i64 (atL l s)) ∧ Below w.heap.size w w' := by
 refine (At16 a n cap l s w hA hn).mono ?_
 rintro e w' ⟨rfl, rfl⟩
 exact ⟨rfl, Below.refl _ _⟩
set_option maxRecDepth 2000 in
set_option maxHeartbeats 4000000 in
theorem Unlike16 (a : Option Addr) (n cap : Nat) (l : List ByteArray) (w : World) (hA : RS encSt 1 w a n l) (hn : n ≤ 1000) (hcap : n ≤ cap) (hsz : ∀ x ∈ l, x.size ≤ 10000) : Calls Tryz.prog 29 #[.slice a n cap] w fun e w' => e = .returned (.bool (unlB l)) ∧ Below w.heap.size w w' := by
 have hln : l.length = n := hA.1
 have HA := hide hA
 have HB : Hid (Below w.heap.size w w) := Below.refl _ _
 have HSZ := hide hsz
 clear hA hsz
 go_enter Tryz.func29, Tryz.ntmps29
 go_wp2
 go_loopw [3] (fun v wr => ∃ i : Nat, i ≤ n ∧ v = .int .i64 i ∧ Hid (allN i (okN l) = true) ∧ Hid (RS encSt 1 wr a n l) ∧ Hid (Below w.heap.size w wr)) (fun v _ => n - (RowKit.intOf v).toNat)
 case atStart => exact ⟨0, by omega, rfl, rfl, HA, HB⟩
 case round =>
  clear HA HB
  obtain ⟨i, hi, rfl, HF, HA, HB⟩ := hrel
  by_cases hlt : i < n
  ·have hi0 : (0 : Int) ≤ (i : Int) := by omega
   have hi1 : (i : Int) < (n : Int) := by omega
   have hi2 : (i : Int) ≤ (cap : Int) := by omega
   have hx : l[i]? = some (l[i]'(by omega)) := List.getElem?_eq_getElem (by omega)
   generalize l[i]'(by omega) = x at hx
   obtain ⟨b, off, rfl, hcc⟩ := rs_cells HA.out (by omega)
   have c0 := hcc i x hx 0 _ rfl
   simp only [Nat.mul_one, Nat.add_zero] at c0
   have hsx := HSZ.out x (List.mem_of_getElem? hx)
   have HNM := hide (fun W => Name15 x W hsx)
   have hv : okN l i = (nameB x && decide (atL (l.take i) x < 0)) := by unfold okN; rw [hx]
   have hstep : allN (i + 1) (okN l) = (nameB x && decide (atL (l.take i) x < 0)) := by rw [allN_succ, HF.out, hv]; rfl
   have hfar : (nameB x && decide (atL (l.take i) x < 0)) = false → unlB l = false := fun h => by
    unfold unlB
    exact allN_bad (i := i) (by omega) (hv.trans h)
   clear hcc hx hv HF
   rcases h1 : nameB x with _ | _
   ·rw [h1] at HNM hfar
    have HK : Hid (unlB l = false) := hfar rfl
    clear h1 hstep hfar
    go_upto_region 4 with fail
    refine wp_region_held_drew (S := fun W => Below wr.heap.size wr W) (by kernel_rfl) ((Below.refl _ wr).drew) (fun hS0 => ?_)
    refine tkJ 0 10 hS0 ?_; simp only [ly]
    refine tkJ 1 11 hS0 ?_; simp only [ly]
    refine tkJ 2 12 hS0 ?_; simp only [ly]
    refine tkI 3 13 ?v237 rfl rfl hS0 ?hy237 ?_
    case hy237 => (intro W hW; have e0 := bcell hW c0; clear hW; go_simp; try rfl)
    simp only [ly]
    refine wpAnyH_ready (rs := [4]) (by kernel_rfl) (by simp) ?_
    refine AllReadyH.cons rfl (fun K hK => ?_) AllReadyH.nil
    go_simp
    refine (HNM.out _).mono ?_
    rintro e wn ⟨rfl, hb⟩
    refine hK.out _ _ ?hs238 (fun hS1 => ?_)
    case hs238 => exact bel_next hS0 hb
    clear hK K hb
    try simp only [ly]
    refine tkJ 5 15 hS1 ?_; simp only [ly]
    refine tkJ 6 16 hS1 ?_; simp only [ly]
    refine tkM 7 17 hS1 ?_; simp only [ly]
    refine tkM 8 18 hS1 ?_; simp only [ly]
    refine tkM 9 19 hS1 ?_; simp only [ly]
    refine tkM 10 20 hS1 ?_; simp only [ly]
    refine tkM 11 21 hS1 ?_; simp only [ly]
    refine tkM 12 22 hS1 ?_; simp only [ly]
    refine tkM 13 23 hS1 ?_; simp only [ly]
    refine tkM 14 24 hS1 ?_; simp only [ly]
    refine tkM 15 25 hS1 ?_; simp only [ly]
    refine tkJ 16 26 hS1 ?_; simp only [ly]
    refine wpAnyH_done (by kernel_rfl) ?_ _
    go_wp2
    go_ret
    exact ⟨by rw [HK.out]; rfl, bel_next HB.out hS1⟩
   ·rw [h1] at HNM hfar hstep
    obtain ⟨t, ht⟩ : ∃ t, atL (l.take i) x = t := ⟨_, rfl⟩
    rw [ht] at hstep hfar
    by_cases h2 : t < 0
    ·have HF2 : Hid (allN (i + 1) (okN l) = true) := hstep.trans (by rw [decide_eq_true h2]; rfl)
     have h2b : ¬ (0 ≤ t) := by omega
     clear h1 hstep hfar
     go_upto_region 4 with fail
     refine wp_region_held_drew (S := fun W => Below wr.heap.size wr W) (by kernel_rfl) ((Below.refl _ wr).drew) (fun hS0 => ?_)
     refine tkJ 0 10 hS0 ?_; simp only [ly]
     refine tkJ 1 11 hS0 ?_; simp only [ly]
     refine tkJ 2 12 hS0 ?_; simp only [ly]
     refine tkI 3 13 ?v245 rfl rfl hS0 ?hy245 ?_
     case hy245 => (intro W hW; have e0 := bcell hW c0; clear hW; go_simp; try rfl)
     simp only [ly]
     refine wpAnyH_ready (rs := [4]) (by kernel_rfl) (by simp) ?_
     refine AllReadyH.cons rfl (fun K hK => ?_) AllReadyH.nil
     go_simp
     refine (HNM.out _).mono ?_
     rintro e wn ⟨rfl, hb⟩
     refine hK.out _ _ ?hs246 (fun hS1 => ?_)
     case hs246 => exact bel_next hS0 hb
     clear hK K hb
     try simp only [ly]
     refine tkJ 5 15 hS1 ?_; simp only [ly]
     refine tkJ 6 16 hS1 ?_; simp only [ly]
     refine tkJ 7 17 hS1 ?_; simp only [ly]
     refine tkJ 8 18 hS1 ?_; simp only [ly]
     refine tkJ 9 19 hS1 ?_; simp only [ly]
     refine tkJ 10 20 hS1 ?_; simp only [ly]
     refine tkJ 11 21 hS1 ?_; simp only [ly]
     refine tkJ 12 22 hS1 ?_; simp only [ly]
     refine tkI 13 23 ?v255 rfl rfl hS1 ?hy255 ?_
     case hy255 => (intro W hW; have e0 := bcell hW c0; clear hW; go_simp; try rfl)
     simp only [ly]
     refine wpAnyH_ready (rs := [14]) (by kernel_rfl) (by simp) ?_
     refine AllReadyH.cons rfl (fun K hK => ?_) AllReadyH.nil
     go_simp
     refine (At16b _ _ _ (l.take i) x _ (rs_take (HA.out.below hS1) i (by omega)) (by omega)).mono ?_
     rintro e wa ⟨rfl, hb⟩
     rw [ht]
     refine hK.out _ _ ?hs256 (fun hS2 => ?_)
     case hs256 => exact bel_next hS1 hb
     clear hK K hb
     try simp only [ly]
     refine tkJ 15 25 hS2 ?_; simp only [ly]
     refine tkJ 16 26 hS2 ?_; simp only [ly]
     refine wpAnyH_done (by kernel_rfl) ?_ _
     go_wp2
     go_roundw
     case rel => exact ⟨i + 1, by omega, by go_num, HF2, hide (HA.out.below hS2), hide (bel_next HB.out hS2)⟩
     case measure => simp [RowKit.intOf] <;> omega
    ·have HK : Hid (unlB l = false) := hfar (by rw [decide_eq_false h2]; rfl)
     have h2b : (0 ≤ t) := by omega
     clear h1 hstep hfar
     go_upto_region 4 with fail
     refine wp_region_held_drew (S := fun W => Below wr.heap.size wr W) (by kernel_rfl) ((Below.refl _ wr).drew) (fun hS0 => ?_)
     refine tkJ 0 10 hS0 ?_; simp only [ly]
     refine tkJ 1 11 hS0 ?_; simp only [ly]
     refine tkJ 2 12 hS0 ?_; simp only [ly]
     refine tkI 3 13 ?v262 rfl rfl hS0 ?hy262 ?_
     case hy262 => (intro W hW; have e0 := bcell hW c0; clear hW; go_simp; try rfl)
     simp only [ly]
     refine wpAnyH_ready (rs := [4]) (by kernel_rfl) (by simp) ?_
     refine AllReadyH.cons rfl (fun K hK => ?_) AllReadyH.nil
     go_simp
     refine (HNM.out _).mono ?_
     rintro e wn ⟨rfl, hb⟩
     refine hK.out _ _ ?hs263 (fun hS1 => ?_)
     case hs263 => exact bel_next hS0 hb
     clear hK K hb
     try simp only [ly]
     refine tkJ 5 15 hS1 ?_; simp only [ly]
     refine tkJ 6 16 hS1 ?_; simp only [ly]
     refine tkJ 7 17 hS1 ?_; simp only [ly]
     refine tkJ 8 18 hS1 ?_; simp only [ly]
     refine tkJ 9 19 hS1 ?_; simp only [ly]
     refine tkJ 10 20 hS1 ?_; simp only [ly]
     refine tkJ 11 21 hS1 ?_; simp only [ly]
     refine tkJ 12 22 hS1 ?_; simp only [ly]
     refine tkI 13 23 ?v272 rfl rfl hS1 ?hy272 ?_
     case hy272 => (intro W hW; have e0 := bcell hW c0; clear hW; go_simp; try rfl)
     simp only [ly]
     refine wpAnyH_ready (rs := [14]) (by kernel_rfl) (by simp) ?_
     refine AllReadyH.cons rfl (fun K hK => ?_) AllReadyH.nil
     go_simp
     refine (At16b _ _ _ (l.take i) x _ (rs_take (HA.out.below hS1) i (by omega)) (by omega)).mono ?_
     rintro e wa ⟨rfl, hb⟩
     rw [ht]
     refine hK.out _ _ ?hs273 (fun hS2 => ?_)
     case hs273 => exact bel_next hS1 hb
     clear hK K hb
     try simp only [ly]
     refine tkJ 15 25 hS2 ?_; simp only [ly]
     refine tkJ 16 26 hS2 ?_; simp only [ly]
     refine wpAnyH_done (by kernel_rfl) ?_ _
     go_wp2
     go_ret
     exact ⟨by rw [HK.out]; rfl, bel_next HB.out hS2⟩
  ·obtain rfl : i = n := by omega
   have HK : Hid (unlB l = true) := by unfold Hid unlB; rw [hln]; exact HF.out
   go_wp2
   go_ret
   exact ⟨by rw [HK.out]; rfl, HB.out⟩
set_option maxRecDepth 2000 in
set_option maxHeartbeats 4000000 in
theorem texts16 (b : Bool) (a : Option Addr) (n cap : Nat) (l : List ByteArray) (a' : Option Addr) (n' cap' : Nat) (l' : List ByteArray) (hb : b = true ↔ l = l') (w : World) (hA : RS encSt 1 w a n l) (hA' : RS encSt 1 w a' n' l') (hn : n ≤ 100000) (hn' : n' ≤ 100000) : Calls Tryz.prog 25 #[.slice a n cap, .slice a' n' cap'] w fun e w' => e = .returned (.bool b) ∧ Below w.heap.size w w' := by
 have HB : Hid (Below w.heap.size w w) := Below.refl _ _
 have HA := hide hA
 have HA' := hide hA'
 have HBB := hide hb
 have hln : l.length = n := hA.1
 have hln' : l'.length = n' := hA'.1
 clear hA hA' hb
 by_cases hnn : n = n'
 ·subst hnn
  go_enter Tryz.func25, Tryz.ntmps25
  go_wp2
  go_loopw [5] (fun v wr => ∃ j : Nat, j ≤ n ∧ v = .int .i64 j ∧ Hid (l.take j = l'.take j) ∧ Hid (RS encSt 1 wr a n l) ∧ Hid (RS encSt 1 wr a' n l') ∧ Hid (Below w.heap.size w wr)) (fun v _ => n - (RowKit.intOf v).toNat)
  case atStart => exact ⟨0, by omega, rfl, (show _ = _ by simp), HA, HA', HB⟩
  case round =>
   clear HA HA' HB
   obtain ⟨j, hj, rfl, HF, HA, HA', HB⟩ := hrel
   by_cases hlt : j < n
   ·have hx : l[j]? = some (l[j]'(by omega)) := List.getElem?_eq_getElem (by omega)
    have hy : l'[j]? = some (l'[j]'(by omega)) := List.getElem?_eq_getElem (by omega)
    generalize l[j]'(by omega) = x at hx
    generalize l'[j]'(by omega) = y at hy
    obtain ⟨b1, o1, rfl, hcc⟩ := rs_cells HA.out (by omega)
    obtain ⟨b2, o2, rfl, hdd⟩ := rs_cells HA'.out (by omega)
    have c0 := hcc j x hx 0 _ rfl
    have d0 := hdd j y hy 0 _ rfl
    simp only [Nat.mul_one, Nat.add_zero] at c0 d0
    have hk0 : (0 : Int) ≤ (j : Int) := by omega
    have hk1 : (j : Int) < (n : Int) := by omega
    have HX := hide hx
    have HY := hide hy
    clear hx hy hcc hdd hln hln'
    have hq := eqK x y
    by_cases he : x = y
    ·subst he
     rw [decide_eq_true rfl] at hq
     have HF2 : Hid (l.take (j + 1) = l'.take (j + 1)) := by unfold Hid; rw [takeG_snoc HX.out, takeG_snoc HY.out, HF.out]
     clear HX HY HF
     go_upto_region 6 with fail
     go_region
     go_wp2
     go_roundw
     case rel => exact ⟨j + 1, by omega, by go_num, HF2, hide (HA.out.below (Below.refl _ wr).drew), hide (HA'.out.below (Below.refl _ wr).drew), hide HB.out.drew⟩
     case measure => simp [RowKit.intOf] <;> omega
    ·rw [decide_eq_false he] at hq
     have HNO : Hid (b = false) := by
      cases b
      ·rfl
      ·exfalso
       have q := HBB.out.1 rfl
       have h1 := HX.out
       rw [q, HY.out] at h1
       exact he (Option.some.inj h1).symm
     clear HX HY HF
     go_upto_region 6 with fail
     go_region
     go_wp2
     go_ret
     exact ⟨by rw [HNO.out]; rfl, HB.out.drew⟩
   ·obtain rfl : j = n := by omega
    have HE : Hid (b = true) := by
     have e := HF.out
     rw [List.take_of_length_le (by omega), List.take_of_length_le (by omega)] at e
     exact HBB.out.2 e
    clear HF hln hln'
    go_wp2
    go_ret
    exact ⟨by rw [HE.out]; rfl, HB.out⟩
 ·have q6 : ((n : Int) != (n' : Int)) = true := by simp; omega
  have HNO : Hid (b = false) := by
   cases b
   ·rfl
   ·exfalso
    have q := HBB.out.1 rfl
    exact hnn (by rw [← hln, ← hln', q])
  clear hnn hln hln'
  go_enter Tryz.func25, Tryz.ntmps25
  go_wp2
  go_ret
  exact ⟨by rw [HNO.out]; rfl, HB.out⟩
set_option maxRecDepth 2000 in
set_option maxHeartbeats 4000000 in
theorem Does16 (b : Bool) (a : Option Addr) (n cap : Nat) (l : List Dg) (a' : Option Addr) (n' cap' : Nat) (l' : List Dg) (hb : b = true ↔ l = l') (w : World) (hA : RS encDg 3 w a n l) (hA' : RS encDg 3 w a' n' l') (hn : n ≤ 100000) (hn' : n' ≤ 100000) : Calls Tryz.prog 26 #[.slice a n cap, .slice a' n' cap'] w fun e w' => e = .returned (.bool b) ∧ Below w.heap.size w w' := by
 have HB : Hid (Below w.heap.size w w) := Below.refl _ _
 have HA := hide hA
 have HA' := hide hA'
 have HBB := hide hb
 have hln : l.length = n := hA.1
 have hln' : l'.length = n' := hA'.1
 clear hA hA' hb
 by_cases hnn : n = n'
 ·subst hnn
  go_enter Tryz.func26, Tryz.ntmps26
  go_wp2
  go_loopw [5] (fun v wr => ∃ j : Nat, j ≤ n ∧ v = .int .i64 j ∧ Hid (l.take j = l'.take j) ∧ Hid (RS encDg 3 wr a n l) ∧ Hid (RS encDg 3 wr a' n l') ∧ Hid (Below w.heap.size w wr)) (fun v _ => n - (RowKit.intOf v).toNat)
  case atStart => exact ⟨0, by omega, rfl, (show _ = _ by simp), HA, HA', HB⟩
  case round =>
   clear HA HA' HB
   obtain ⟨j, hj, rfl, HF, HA, HA', HB⟩ := hrel
   by_cases hlt : j < n
   ·have hx : l[j]? = some (l[j]'(by omega)) := List.getElem?_eq_getElem (by omega)
    have hy : l'[j]? = some (l'[j]'(by omega)) := List.getElem?_eq_getElem (by omega)
    generalize l[j]'(by omega) = x at hx
    generalize l'[j]'(by omega) = y at hy
    obtain ⟨b1, o1, rfl, hcc⟩ := rs_cells HA.out (by omega)
    obtain ⟨b2, o2, rfl, hdd⟩ := rs_cells HA'.out (by omega)
    have c0 := hcc j x hx 0 _ rfl
    have d0 := hdd j y hy 0 _ rfl
    have c1 := hcc j x hx 1 _ rfl
    have d1 := hdd j y hy 1 _ rfl
    have c2 := hcc j x hx 2 _ rfl
    have d2 := hdd j y hy 2 _ rfl
    simp only [Nat.add_zero] at c0 d0
    have hk0 : (0 : Int) ≤ (j : Int) := by omega
    have hk1 : (j : Int) < (n : Int) := by omega
    have HX := hide hx
    have HY := hide hy
    clear hx hy hcc hdd hln hln'
    obtain ⟨x0, x1, x2⟩ := x
    obtain ⟨y0, y1, y2⟩ := y
    simp only at c0 c1 c2 d0 d1 d2
    by_cases e0 : x0 = y0
    ·subst e0
     by_cases e1 : x1 = y1
     ·subst e1
      by_cases e2 : x2 = y2
      ·subst e2
       have HF2 : Hid (l.take (j + 1) = l'.take (j + 1)) := by unfold Hid; rw [takeG_snoc HX.out, takeG_snoc HY.out, HF.out]
       clear HX HY HF
       go_upto_region 6 with fail
       go_region
       go_wp2
       go_roundw
       case rel => exact ⟨j + 1, by omega, by go_num, HF2, hide (HA.out.below (Below.refl _ wr).drew), hide (HA'.out.below (Below.refl _ wr).drew), hide HB.out.drew⟩
       case measure => simp [RowKit.intOf] <;> omega
      ·have HNO : Hid (b = false) := by
        cases b
        ·rfl
        ·exfalso
         have q := HBB.out.1 rfl
         have h1 := HX.out
         rw [q, HY.out] at h1
         cases h1; exact e2 rfl
       clear HX HY HF
       go_upto_region 6 with fail
       go_region
       go_wp2
       go_ret
       exact ⟨by rw [HNO.out]; rfl, HB.out.drew⟩
     ·have HNO : Hid (b = false) := by
       cases b
       ·rfl
       ·exfalso
        have q := HBB.out.1 rfl
        have h1 := HX.out
        rw [q, HY.out] at h1
        cases h1; exact e1 rfl
      clear HX HY HF
      go_upto_region 6 with fail
      go_region
      go_wp2
      go_ret
      exact ⟨by rw [HNO.out]; rfl, HB.out.drew⟩
    ·have HNO : Hid (b = false) := by
      cases b
      ·rfl
      ·exfalso
       have q := HBB.out.1 rfl
       have h1 := HX.out
       rw [q, HY.out] at h1
       cases h1; exact e0 rfl
     clear HX HY HF
     go_upto_region 6 with fail
     go_region
     go_wp2
     go_ret
     exact ⟨by rw [HNO.out]; rfl, HB.out.drew⟩
   ·obtain rfl : j = n := by omega
    have HE : Hid (b = true) := by
     have e := HF.out
     rw [List.take_of_length_le (by omega), List.take_of_length_le (by omega)] at e
     exact HBB.out.2 e
    clear HF hln hln'
    go_wp2
    go_ret
    exact ⟨by rw [HE.out]; rfl, HB.out⟩
 ·have q6 : ((n : Int) != (n' : Int)) = true := by simp; omega
  have HNO : Hid (b = false) := by
   cases b
   ·rfl
   ·exfalso
    have q := HBB.out.1 rfl
    exact hnn (by rw [← hln, ← hln', q])
  clear hnn hln hln'
  go_enter Tryz.func26, Tryz.ntmps26
  go_wp2
  go_ret
  exact ⟨by rw [HNO.out]; rfl, HB.out⟩
end Go.Proofs.YtomppblgalepjaaGreatDoor

