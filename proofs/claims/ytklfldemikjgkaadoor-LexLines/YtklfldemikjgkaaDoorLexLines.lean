/- What stands behind a line feed changes no token of the lines ahead, nor whether there is one. -/
import Derived.Test.YtklfldemikjgkaaDoorRows
import Derived.Test.YtklfldemikjgkaaDoorCards
import Derived.Test.YtklfldemikjgkaaDoorTie
import Derived.SevenTiedAt
import Derived.LaidMore
import Derived.LaidLaws
import Derived.Handed
import Derived.WalkKit
import Derived.ProofKit
import Derived.OpenShut
import Derived.ShutString
import Derived.ChangeOld
import Derived.Below
import Derived.SizedLaws
import Derived.Test.YtklfldemikjgkaaDoorL9
import Derived.Test.YtklfldemikjgkaaDoorLV
namespace Go.Proofs.YtklfldemikjgkaaDoor.lexLines
open Go.ChangeShapes Go.WideShapes Go.ChangeAt Go.RowKit
set_option linter.unusedVariables false

theorem own : ownKnob Tryd.prog.godebug = none := by kernel_rfl
theorem laidOut : laidOutB Tryd.prog = true := by kernel_rfl

set_option maxRecDepth 2000 in
set_option maxHeartbeats 8000000 in
theorem walk (v0 : Value) (v1 : Value) (w : World) (w0 : InS14 w v0) (w1 : InS14 w v1) (hlv : LV w) :
    Calls Tryd.prog 4 #[v0, v1] w fun e w' => e = .returned (.bool true) ∧ Below w.heap.size w w' := by
  have HLV := hide hlv
  clear hlv
  obtain ⟨s, rfl⟩ := w0
  obtain ⟨t, rfl⟩ := w1
  obtain ⟨n, hn⟩ : ∃ n, s.size = n := ⟨_, rfl⟩
  obtain ⟨m, hm⟩ : ∃ m, t.size = m := ⟨_, rfl⟩
  have HB : Hid (Below w.heap.size w w) := Below.refl _ _
  by_cases h1 : (2000 : Int) < (n : Int)
  · go_enter Tryd.func4, Tryd.ntmps4
    go_wp2_with (go_at_call 6; refine (awake14 _ (HLV.out.below HB.out)).mono ?_; rintro e wz ⟨rfl, hb⟩; replace HB := hide (bel_next HB.out hb); clear hb)
    go_ret
    exact ⟨rfl, HB.out⟩
  by_cases h2 : (2000 : Int) < (m : Int)
  · go_enter Tryd.func4, Tryd.ntmps4
    go_wp2_with (go_at_call 6; refine (awake14 _ (HLV.out.below HB.out)).mono ?_; rintro e wz ⟨rfl, hb⟩; replace HB := hide (bel_next HB.out hb); clear hb)
    go_ret
    exact ⟨rfl, HB.out⟩
  obtain ⟨la, x, er, hla⟩ : ∃ la x er, lexB (bytesL s ++ [10]) = (la, x, er) := ⟨_, _, _, rfl⟩
  obtain ⟨lb, y, fr, hlb⟩ : ∃ lb y fr, lexB (bytesL s ++ 10 :: bytesL t) = (lb, y, fr) := ⟨_, _, _, rfl⟩
  have HLL := hide (lines14 (by rw [bytesL_sz]; omega) (by rw [bytesL_sz]; omega) la lb x y er fr hla hlb)
  have HA : Hid (lexB (bytesL (s ++ ⟨#[10]⟩)) = (la, x, er)) := by unfold Hid; rw [bytesL_app]; exact hla
  have HBB : Hid (lexB (bytesL (s ++ ⟨#[10]⟩ ++ t)) = (lb, y, fr)) := by unfold Hid; rw [bytesL_app, bytesL_app, List.append_assoc]; exact hlb
  have hl8 : la.length ≤ 800 := by have q := lexB_len (bytesL s ++ [10]); rw [hla] at q; exact q
  have HRA : Hid (∀ S W, LV W → S = s ++ ⟨#[10]⟩ → Calls Tryd.prog 7 #[.string S] W fun e w' => ∃ p c, e = .returned (.tuple #[.slice p la.length c, .int .i64 x, .int .i64 er]) ∧ KS w' p la.length la ∧ CP p la.length c ∧ Below W.heap.size W w') := fun S W hW h => by
    subst h
    refine (ReadP14 _ W (by simp only [ByteArray.size_append]; unfold maxLen; show s.size + 1 ≤ _; omega) hW).mono ?_
    rintro e w' ⟨p, c, ts, x, e0, rfl, hl, hk, hc, hb⟩
    have q := hl
    rw [HA.out] at q
    cases q
    exact ⟨p, c, rfl, hk, hc, hb⟩
  have HRB : Hid (∀ S W, LV W → S = s ++ ⟨#[10]⟩ ++ t → Calls Tryd.prog 7 #[.string S] W fun e w' => ∃ p c, e = .returned (.tuple #[.slice p lb.length c, .int .i64 y, .int .i64 fr]) ∧ KS w' p lb.length lb ∧ CP p lb.length c ∧ Below W.heap.size W w') := fun S W hW h => by
    subst h
    refine (ReadP14 _ W (by simp only [ByteArray.size_append]; unfold maxLen; show s.size + 1 + t.size ≤ _; omega) hW).mono ?_
    rintro e w' ⟨p, c, ts, x, e0, rfl, hl, hk, hc, hb⟩
    have q := hl
    rw [HBB.out] at q
    cases q
    exact ⟨p, c, rfl, hk, hc, hb⟩
  clear hla hlb HA HBB
  rcases HLL.out with rfl | ⟨he7, he0, rfl, rfl, rfl⟩ | ⟨rfl, hf0, hf, hy, rfl⟩ | ⟨rfl, rfl, out, t1, t2, rfl, rfl, ht2⟩
  · clear HLL
    generalize la.length = na at HRA
    generalize lb.length = nb at HRB
    go_enter Tryd.func4, Tryd.ntmps4
    go_upto_region 4 with (go_at_call 7; refine (HRA.out _ _ (HLV.out.below HB.out) rfl).mono ?_; rintro e w1 ⟨p, c, rfl, hk, hc, hb⟩; have HK := hide hk; have HC := hide hc; replace HB := hide (bel_next HB.out hb); clear hk hc hb)
    go_upto_region 5 with (go_at_call 7; refine (HRB.out _ _ (HLV.out.below HB.out) rfl).mono ?_; rintro e w2 ⟨p2, c2, rfl, hk, hc, hb⟩; have HK2 := hide hk; have HC2 := hide hc; replace HK := hide (HK.out.below hb); replace HB := hide (bel_next HB.out hb); clear hk hc hb)
    go_wp2_with (go_at_call 6; refine (awake14 _ (HLV.out.below HB.out)).mono ?_; rintro e wz ⟨rfl, hb⟩; replace HB := hide (bel_next HB.out hb); clear hb)
    go_ret
    exact ⟨rfl, HB.out⟩
  · clear HLL
    have g1 : (er == 7) = false := by simpa using he7
    have g2 : (er != 0) = true := by simpa using he0
    clear he7 he0
    generalize la.length = na at HRA
    go_enter Tryd.func4, Tryd.ntmps4
    go_upto_region 4 with (go_at_call 7; refine (HRA.out _ _ (HLV.out.below HB.out) rfl).mono ?_; rintro e w1 ⟨p, c, rfl, hk, hc, hb⟩; have HK := hide hk; have HC := hide hc; replace HB := hide (bel_next HB.out hb); clear hk hc hb)
    go_upto_region 5 with (go_at_call 7; refine (HRB.out _ _ (HLV.out.below HB.out) rfl).mono ?_; rintro e w2 ⟨p2, c2, rfl, hk, hc, hb⟩; have HK2 := hide hk; have HC2 := hide hc; replace HK := hide (HK.out.below hb); replace HB := hide (bel_next HB.out hb); clear hk hc hb)
    go_wp2_with (go_at_call 6; refine (awake14 _ (HLV.out.below HB.out)).mono ?_; rintro e wz ⟨rfl, hb⟩; replace HB := hide (bel_next HB.out hb); clear hb)
    go_ret
    exact ⟨rfl, HB.out⟩
  · clear HLL hf0
    generalize la.length = na at HRA
    rcases hf with rfl | rfl
    · go_enter Tryd.func4, Tryd.ntmps4
      go_upto_region 4 with (go_at_call 7; refine (HRA.out _ _ (HLV.out.below HB.out) rfl).mono ?_; rintro e w1 ⟨p, c, rfl, hk, hc, hb⟩; have HK := hide hk; have HC := hide hc; replace HB := hide (bel_next HB.out hb); clear hk hc hb)
      go_upto_region 5 with (go_at_call 7; refine (HRB.out _ _ (HLV.out.below HB.out) rfl).mono ?_; rintro e w2 ⟨p2, c2, rfl, hk, hc, hb⟩; have HK2 := hide hk; have HC2 := hide hc; replace HK := hide (HK.out.below hb); replace HB := hide (bel_next HB.out hb); clear hk hc hb)
      go_wp2_with (go_at_call 6; refine (awake14 _ (HLV.out.below HB.out)).mono ?_; rintro e wz ⟨rfl, hb⟩; replace HB := hide (bel_next HB.out hb); clear hb)
      go_ret
      exact ⟨rfl, HB.out⟩
    · go_enter Tryd.func4, Tryd.ntmps4
      go_upto_region 4 with (go_at_call 7; refine (HRA.out _ _ (HLV.out.below HB.out) rfl).mono ?_; rintro e w1 ⟨p, c, rfl, hk, hc, hb⟩; have HK := hide hk; have HC := hide hc; replace HB := hide (bel_next HB.out hb); clear hk hc hb)
      go_upto_region 5 with (go_at_call 7; refine (HRB.out _ _ (HLV.out.below HB.out) rfl).mono ?_; rintro e w2 ⟨p2, c2, rfl, hk, hc, hb⟩; have HK2 := hide hk; have HC2 := hide hc; replace HK := hide (HK.out.below hb); replace HB := hide (bel_next HB.out hb); clear hk hc hb)
      go_wp2_with (go_at_call 6; refine (awake14 _ (HLV.out.below HB.out)).mono ?_; rintro e wz ⟨rfl, hb⟩; replace HB := hide (bel_next HB.out hb); clear hb)
      go_ret
      exact ⟨rfl, HB.out⟩
  · clear HLL
    have hlb : 1 ≤ t2.length := List.length_pos_iff.2 ht2
    obtain ⟨no, hno⟩ : ∃ no, out.length = no := ⟨_, rfl⟩
    obtain ⟨n1, hn1⟩ : ∃ n1, (out ++ [t1]).length = n1 := ⟨_, rfl⟩
    obtain ⟨n2, hn2⟩ : ∃ n2, (out ++ t2).length = n2 := ⟨_, rfl⟩
    have e1 : n1 = no + 1 := by rw [← hn1, List.length_append, hno]; rfl
    have e2 : no < n2 := by rw [← hn2, List.length_append, hno]; omega
    have HT1 : Hid ((out ++ [t1]).take no = out) := by unfold Hid; rw [← hno, List.take_left]
    have HT2 : Hid ((out ++ t2).take no = out) := by unfold Hid; rw [← hno, List.take_left]
    have HZM : Hid (∀ p c p2 c2 W, KS W p n1 (out ++ [t1]) → KS W p2 n2 (out ++ t2) → Calls Tryd.prog 9 #[.slice p no c, .slice p2 no c2] W fun e w' => e = .returned (.bool true) ∧ Below W.heap.size W w') := fun p c p2 c2 W g1 g2 => by
      have k1 := KS.take g1 no (by omega)
      have k2 := KS.take g2 no (by omega)
      rw [HT1.out] at k1
      rw [HT2.out] at k2
      have q := Same14_ref p no c out p2 no c2 out W k1 k2
      rw [decide_eq_true rfl] at q
      exact q
    rw [hn1] at HRA
    rw [hn2] at HRB
    have hn8 : n1 ≤ 800 := by rw [← hn1]; exact hl8
    have hw : IntKind.i64.wrap ((n1 : Int) - 1) = (no : Int) := by rw [IntKind.wrap_i64]; omega
    have h0 : (0 : Int) ≤ (no : Int) := by omega
    have e3 : (no : Int) < (n2 : Int) := by omega
    clear hno hn1 hn2 hlb ht2 HT1 HT2
    go_enter Tryd.func4, Tryd.ntmps4
    go_upto_region 4 with (go_at_call 7; refine (HRA.out _ _ (HLV.out.below HB.out) rfl).mono ?_; rintro e w1 ⟨p, c, rfl, hk, hc, hb⟩; have HK := hide hk; have HC := hide hc; replace HB := hide (bel_next HB.out hb); clear hk hc hb)
    go_upto_region 5 with (go_at_call 7; refine (HRB.out _ _ (HLV.out.below HB.out) rfl).mono ?_; rintro e w2 ⟨p2, c2, rfl, hk, hc, hb⟩; have HK2 := hide hk; have HC2 := hide hc; replace HK := hide (HK.out.below hb); replace HB := hide (bel_next HB.out hb); clear hk hc hb)
    obtain ⟨b1, o1, rfl⟩ := KS.addr HK.out (by omega)
    obtain ⟨b2, o2, rfl⟩ := KS.addr HK2.out (by omega)
    have hc1 := HC.out.1
    have hc2 := HC2.out.1
    have hc3 : (no : Int) ≤ (c : Int) := by omega
    have hc4 : (no : Int) ≤ (c2 : Int) := by omega
    have hc5 : ¬ (c : Int) = 0 := by omega
    have hc6 : ¬ (c2 : Int) = 0 := by omega
    have hc7 : ¬ c = 0 := by omega
    have hc8 : ¬ c2 = 0 := by omega
    go_upto_region 12 with fail
    refine wp_region_held_drew (S := fun W => Below w2.heap.size w2 W) (by kernel_rfl) ((Below.refl _ w2).drew) (fun hS0 => ?_)
    refine takeInH 0 81 ?v117 rfl rfl (by kernel_rfl) (by kernel_rfl) (by kernel_rfl) (fun _ _ _ h => h) (by kernel_rfl) hS0 ?hy117 ?_
    case hy117 => (intro W hW; clear hW; go_simp; try rfl)
    simp only [Act.put, List.setIfInBounds_toArray, List.set_cons_zero, List.set_cons_succ]
    refine takeInH 1 82 ?v118 rfl rfl (by kernel_rfl) (by kernel_rfl) (by kernel_rfl) (fun _ _ _ h => h) (by kernel_rfl) hS0 ?hy118 ?_
    case hy118 => (intro W hW; clear hW; go_simp; try rfl)
    simp only [Act.put, List.setIfInBounds_toArray, List.set_cons_zero, List.set_cons_succ]
    refine takeInH 2 83 ?v119 rfl rfl (by kernel_rfl) (by kernel_rfl) (by kernel_rfl) (fun _ _ _ h => h) (by kernel_rfl) hS0 ?hy119 ?_
    case hy119 => (intro W hW; clear hW; go_simp; try rfl)
    simp only [Act.put, List.setIfInBounds_toArray, List.set_cons_zero, List.set_cons_succ]
    refine takeInH 3 84 ?v120 rfl rfl (by kernel_rfl) (by kernel_rfl) (by kernel_rfl) (fun _ _ _ h => h) (by kernel_rfl) hS0 ?hy120 ?_
    case hy120 => (intro W hW; clear hW; go_simp; try rfl)
    simp only [Act.put, List.setIfInBounds_toArray, List.set_cons_zero, List.set_cons_succ]
    refine takeInH 4 85 ?v121 rfl rfl (by kernel_rfl) (by kernel_rfl) (by kernel_rfl) (fun _ _ _ h => h) (by kernel_rfl) hS0 ?hy121 ?_
    case hy121 => (intro W hW; clear hW; go_simp; try rfl)
    simp only [Act.put, List.setIfInBounds_toArray, List.set_cons_zero, List.set_cons_succ]
    refine takeInH 5 86 ?v122 rfl rfl (by kernel_rfl) (by kernel_rfl) (by kernel_rfl) (fun _ _ _ h => h) (by kernel_rfl) hS0 ?hy122 ?_
    case hy122 => (intro W hW; clear hW; go_simp; try rfl)
    simp only [Act.put, List.setIfInBounds_toArray, List.set_cons_zero, List.set_cons_succ]
    refine takeInH 6 87 ?v123 rfl rfl (by kernel_rfl) (by kernel_rfl) (by kernel_rfl) (fun _ _ _ h => h) (by kernel_rfl) hS0 ?hy123 ?_
    case hy123 => (intro W hW; clear hW; go_simp; try rfl)
    simp only [Act.put, List.setIfInBounds_toArray, List.set_cons_zero, List.set_cons_succ]
    refine takeInH 7 88 ?v124 rfl rfl (by kernel_rfl) (by kernel_rfl) (by kernel_rfl) (fun _ _ _ h => h) (by kernel_rfl) hS0 ?hy124 ?_
    case hy124 => (intro W hW; clear hW; go_simp; try rfl)
    simp only [Act.put, List.setIfInBounds_toArray, List.set_cons_zero, List.set_cons_succ]
    refine takeInH 8 89 ?v125 rfl rfl (by kernel_rfl) (by kernel_rfl) (by kernel_rfl) (fun _ _ _ h => h) (by kernel_rfl) hS0 ?hy125 ?_
    case hy125 => (intro W hW; clear hW; go_simp; try rfl)
    simp only [Act.put, List.setIfInBounds_toArray, List.set_cons_zero, List.set_cons_succ]
    refine takeInH 9 90 ?v126 rfl rfl (by kernel_rfl) (by kernel_rfl) (by kernel_rfl) (fun _ _ _ h => h) (by kernel_rfl) hS0 ?hy126 ?_
    case hy126 => (intro W hW; clear hW; go_simp; try rfl)
    simp only [Act.put, List.setIfInBounds_toArray, List.set_cons_zero, List.set_cons_succ]
    refine takeInH 10 91 ?v127 rfl rfl (by kernel_rfl) (by kernel_rfl) (by kernel_rfl) (fun _ _ _ h => h) (by kernel_rfl) hS0 ?hy127 ?_
    case hy127 => (intro W hW; clear hW; go_simp; try rfl)
    simp only [Act.put, List.setIfInBounds_toArray, List.set_cons_zero, List.set_cons_succ]
    refine takeInH 11 92 ?v128 rfl rfl (by kernel_rfl) (by kernel_rfl) (by kernel_rfl) (fun _ _ _ h => h) (by kernel_rfl) hS0 ?hy128 ?_
    case hy128 => (intro W hW; clear hW; go_simp; try rfl)
    simp only [Act.put, List.setIfInBounds_toArray, List.set_cons_zero, List.set_cons_succ]
    refine takeInH 12 93 ?v129 rfl rfl (by kernel_rfl) (by kernel_rfl) (by kernel_rfl) (fun _ _ _ h => h) (by kernel_rfl) hS0 ?hy129 ?_
    case hy129 => (intro W hW; clear hW; go_simp; try rfl)
    simp only [Act.put, List.setIfInBounds_toArray, List.set_cons_zero, List.set_cons_succ]
    refine takeInH 13 94 ?v130 rfl rfl (by kernel_rfl) (by kernel_rfl) (by kernel_rfl) (fun _ _ _ h => h) (by kernel_rfl) hS0 ?hy130 ?_
    case hy130 => (intro W hW; clear hW; go_simp; try rfl)
    simp only [Act.put, List.setIfInBounds_toArray, List.set_cons_zero, List.set_cons_succ]
    refine takeInH 14 95 ?v131 rfl rfl (by kernel_rfl) (by kernel_rfl) (by kernel_rfl) (fun _ _ _ h => h) (by kernel_rfl) hS0 ?hy131 ?_
    case hy131 => (intro W hW; clear hW; go_simp; try rfl)
    simp only [Act.put, List.setIfInBounds_toArray, List.set_cons_zero, List.set_cons_succ]
    refine wpAnyH_ready (rs := [15]) (by kernel_rfl) (by simp) ?_
    refine AllReadyH.cons rfl (fun K hK => ?_) AllReadyH.nil
    go_simp
    refine (HZM.out _ _ _ _ _ (HK.out.below hS0) (HK2.out.below hS0)).mono ?_
    rintro e wy ⟨rfl, hb⟩
    refine hK.out _ _ ?hs132 (fun hS1 => ?_)
    case hs132 => exact bel_next hS0 hb
    clear hK K hb
    try simp only [Act.put, List.setIfInBounds_toArray, List.set_cons_zero, List.set_cons_succ]
    refine takeInH 16 97 ?v133 rfl rfl (by kernel_rfl) (by kernel_rfl) (by kernel_rfl) (fun _ _ _ h => h) (by kernel_rfl) hS1 ?hy133 ?_
    case hy133 => (intro W hW; clear hW; go_simp; try rfl)
    simp only [Act.put, List.setIfInBounds_toArray, List.set_cons_zero, List.set_cons_succ]
    refine takeInH 17 98 ?v134 rfl rfl (by kernel_rfl) (by kernel_rfl) (by kernel_rfl) (fun _ _ _ h => h) (by kernel_rfl) hS1 ?hy134 ?_
    case hy134 => (intro W hW; clear hW; go_simp; try rfl)
    simp only [Act.put, List.setIfInBounds_toArray, List.set_cons_zero, List.set_cons_succ]
    refine wpAnyH_ready (rs := [18]) (by kernel_rfl) (by simp) ?_
    refine AllReadyH.cons rfl (fun K hK => ?_) AllReadyH.nil
    go_simp
    refine (awake14 _ (HLV.out.below (bel_next HB.out hS1))).mono ?_
    rintro e wz ⟨rfl, hb⟩
    refine hK.out _ _ ?hs135 (fun hS2 => ?_)
    case hs135 => exact bel_next hS1 hb
    clear hK K hb
    try simp only [Act.put, List.setIfInBounds_toArray, List.set_cons_zero, List.set_cons_succ]
    refine takeInH 19 100 ?v136 rfl rfl (by kernel_rfl) (by kernel_rfl) (by kernel_rfl) (fun _ _ _ h => h) (by kernel_rfl) hS2 ?hy136 ?_
    case hy136 => (intro W hW; clear hW; go_simp; try rfl)
    simp only [Act.put, List.setIfInBounds_toArray, List.set_cons_zero, List.set_cons_succ]
    refine takeInH 20 4 ?v137 rfl rfl (by kernel_rfl) (by kernel_rfl) (by kernel_rfl) (fun _ _ _ h => h) (by kernel_rfl) hS2 ?hy137 ?_
    case hy137 => (intro W hW; clear hW; go_simp; try rfl)
    simp only [Act.put, List.setIfInBounds_toArray, List.set_cons_zero, List.set_cons_succ]
    refine wpAnyH_done (by kernel_rfl) ?_ _
    go_wp2
    go_ret
    exact ⟨rfl, bel_next HB.out hS2⟩

/-! ### The row's step -/
theorem door_met (os : Os) (args : Array Value) : laidMetH Tryd.prog Rows.lexLinesRow.laid ((World.doorLaid Tryd.prog 400 os).forCall (fun _ _ => 0) ⟨#[], args, []⟩).memory :=
  laidMetH_of_parts3 (fuel := 8) (laidMet_of_run' 8 (by kernel_rfl) (by kernel_rfl)) (by kernel_rfl) (by kernel_rfl)
set_option maxRecDepth 100000 in
theorem lifted (os : Os) (started : os.Started) (H : Type) (enc : TypeId × Value → H) :
    ReturnsInHanded {} Tryd.checked os 4 .any (fun w args => (Rows.lexLinesSpec.pre enc Tryd.prog Tryd.f4 Rows.lexLinesRow.domain false w args ∧ laidMetH Tryd.prog Rows.lexLinesRow.laid w) ∧ sizedMet enc Tryd.prog Tryd.f4 (OpenSpec.ofChange Rows.lexLinesSpec) false w args) (Rows.lexLinesSpec.post enc Tryd.prog Tryd.f4 false true false false) := by
  refine returnsInHanded_of_change_and (C := Tryd.checked) (X := fun w _ => laidMetH Tryd.prog Rows.lexLinesRow.laid w) (fun _ _ _ hh h => h.of_heap hh) own started (by kernel_rfl) Tryd.func4
    (ChangeSpec.witness_shaped (enc := enc) (C := Tryd.checked) (os := os) (X := fun w _ => laidMetH Tryd.prog Rows.lexLinesRow.laid w) false (World.doorLaid Tryd.prog 400 os) #[.string ⟨#[]⟩, .string ⟨#[]⟩] 8 rfl (World.shaped_of_RefB (by kernel_rfl) (by kernel_rfl)) (by kernel_rfl) (by kernel_rfl) (by kernel_rfl) (door_met os _)) ?_
  intro W base args ds gs before hval0 hW hcnd hz0 hL _
  have hval : ∀ (j : Nat) t v, Tryd.f4.params[j]? = some t → args[j]? = some v → Value.okWide Tryd.prog W .any base t v := hval0
  have hz : (DataW.weightsEach Tryd.prog (Tryd.f4.params.toList ++ Rows.lexLinesSpec.plain.varTypes Tryd.prog) (ds ++ gs)).all (· ≤ reachBytes) = true := hz0
  have hW' := hW
  obtain ⟨p, q, hA0, hV, rfl, hfz, hnd⟩ := hW
  have hA : DataW.TrodAll enc Tryd.prog W 0 (fun _ => true) true Tryd.f4.params.toList args.toList ds p := hA0
  rw [Tryd.params4] at hA hval hz
  obtain ⟨v0, vs0, d0, ds0, p0, q0, hargs, rfl, rfl, h0, r0⟩ := trodAll_cons hA
  obtain ⟨v1, vs1, d1, ds1, p1, q1, rfl, rfl, rfl, h1, r1⟩ := trodAll_cons r0
  obtain ⟨rfl, rfl, rfl⟩ := trodAll_nil r1
  obtain rfl : args = #[v0, v1] := by cases args; simp_all
  obtain ⟨rfl, rfl⟩ := trodVars_none hV
  have k0 := h0
  have lt0 : ∀ x ∈ p0, x.block < W.heap.size := by obtain ⟨m, hm⟩ := k0; exact DataW.trod_lt m _ _ _ hm
  have w0 : InS14 W v0 := in_str14 (hval 0 9 v0 rfl rfl) h0 (fun n hn => by have := List.all_eq_true.1 hz n (DataW.weights_mem_each (j := 0) (t := 9) rfl rfl n hn); simpa using this)
  have k1 := h1
  have lt1 : ∀ x ∈ p1, x.block < W.heap.size := by obtain ⟨m, hm⟩ := k1; exact DataW.trod_lt m _ _ _ hm
  have w1 : InS14 W v1 := in_str14 (hval 1 9 v1 rfl rfl) h1 (fun n hn => by have := List.all_eq_true.1 hz n (DataW.weights_mem_each (j := 1) (t := 9) rfl rfl n hn); simpa using this)
  clear hA0 hval0 hz0
  refine (walk v0 v1 W w0 w1 (lv_of hL)).mono fun e W' ⟨he, bel⟩ => ?_
  subst he
  exact ⟨_, rfl, _, _, _, [], _, [], hW', trodAll_mk1 (shut_bool Tryd.underlying4 _), (trodAll_cons_mk (Below.trod laidOut (by kernel_rfl) (of_decide_eq_true (by kernel_rfl)) k0 bel lt0) (trodAll_cons_mk (Below.trod laidOut (by kernel_rfl) (of_decide_eq_true (by kernel_rfl)) k1 bel lt1) trodAll_mk0)), rfl, bel.frame _, fun h => by cases h⟩

theorem over : Rows.lexLinesRow.holds Tryd.pinned (OpenSpec.ofChange Rows.lexLinesSpec) :=
  OpenClaim.holds_of_wide 4 Tryd.f4 rfl rfl rfl rfl rfl rfl rfl ⟨rfl, rfl, rfl, rfl, rfl⟩ rfl rfl rfl rfl rfl (by kernel_rfl) Tryd.func4 (by kernel_rfl)
    (of_decide_eq_true (by kernel_rfl)) (by unfold Func.isWrapper; first | (rw [if_pos (by decide +kernel)]; kernel_rfl) | (rw [if_neg (by decide +kernel)]; exact ⟨rfl, rfl⟩))
    (fun os started H enc _ => lifted os started H enc)
end Go.Proofs.YtklfldemikjgkaaDoor.lexLines
namespace Go.Proofs.YtklfldemikjgkaaDoor
open Go
theorem lexLines_plain (f : FuncId) (fn : Func) (hf : Tryd.pinned.checked.prog.funcNamed "huckster/hucksterlaw14.LexLines" = some f) (hfn : Tryd.pinned.checked.prog.funcs[f]? = some fn) :
    true = Tryd.pinned.checked.prog.looks [] ∧ ∀ (j : Nat) t, fn.params[j]? = some t → Tryd.pinned.checked.prog.wantsStandIn t = false := by
  obtain rfl : f = 4 := Option.some.inj ((show Tryd.prog.funcNamed "huckster/hucksterlaw14.LexLines" = some 4 by kernel_rfl).symm.trans hf) |>.symm
  obtain rfl : fn = Tryd.f4 := (Option.some.inj (Tryd.func4.symm.trans hfn)).symm
  refine ⟨by kernel_rfl, fun j t ht => ?_⟩
  rw [Tryd.params4] at ht
  have hm : t ∈ [9, 9] := by simpa using Array.mem_of_getElem? ht
  have hall : ([9, 9].all fun u => !Tryd.prog.wantsStandIn u) = true := by kernel_rfl
  exact (show Tryd.prog.wantsStandIn t = false by simpa using List.all_eq_true.1 hall t hm)
/-- The tied card. -/
theorem lexLines_holds : Rows.LexLinesCardSaid :=
  Claim7.holds_tied_plain_at .later [] _ _ _ _ lexLines.over (fun _ h => by cases h) (by kernel_rfl) (fun _ h => by cases h) lexLines_row_tie rfl ⟨rfl, rfl⟩ (by kernel_rfl) rfl lexLines_plain (by kernel_rfl)
end Go.Proofs.YtklfldemikjgkaaDoor
