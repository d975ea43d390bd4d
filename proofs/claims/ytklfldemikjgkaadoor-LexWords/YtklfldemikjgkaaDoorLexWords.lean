/- A word, or a number, alone is one token; two with a blank between are two. -/
import Derived.Test.YtklfldemikjgkaaDoorRows
import Derived.Test.YtklfldemikjgkaaDoorCards
import Derived.Test.YtklfldemikjgkaaDoorTie
import Derived.SevenTiedAt
import Derived.LaidMore
import Derived.LaidLaws
import Derived.Handed
import Derived.WalkKit
import Derived.ProofKit
import Derived.OpenShut
import Derived.ShutString
import Derived.ChangeOld
import Derived.Below
import Derived.SizedLaws
import Derived.Test.YtklfldemikjgkaaDoorL9
import Derived.Test.YtklfldemikjgkaaDoorLV
namespace Go.Proofs.YtklfldemikjgkaaDoor.lexWords
open Go.ChangeShapes Go.WideShapes Go.ChangeAt Go.RowKit
set_option linter.unusedVariables false

theorem own : ownKnob Tryd.prog.godebug = none := by kernel_rfl
theorem laidOut : laidOutB Tryd.prog = true := by kernel_rfl

set_option maxRecDepth 2000 in
set_option maxHeartbeats 8000000 in
theorem walk (v0 : Value) (v1 : Value) (w : World) (w0 : InS14 w v0) (w1 : InS14 w v1) (hlv : LV w) :
    Calls Tryd.prog 5 #[v0, v1] w fun e w' => e = .returned (.bool true) ∧ Below w.heap.size w w' := by
  have HLV := hide hlv
  clear hlv
  obtain ⟨a, rfl⟩ := w0
  obtain ⟨b, rfl⟩ := w1
  obtain ⟨n, hn⟩ : ∃ n, a.size = n := ⟨_, rfl⟩
  obtain ⟨m, hm⟩ : ∃ m, b.size = m := ⟨_, rfl⟩
  have HB : Hid (Below w.heap.size w w) := Below.refl _ _
  by_cases h1 : (100 : Int) < (n : Int)
  · go_enter Tryd.func5, Tryd.ntmps5
    go_wp2_with (go_at_call 6; refine (awake14 _ (HLV.out.below HB.out)).mono ?_; rintro e wz ⟨rfl, hb⟩; replace HB := hide (bel_next HB.out hb); clear hb)
    go_ret
    exact ⟨rfl, HB.out⟩
  by_cases h2 : (100 : Int) < (m : Int)
  · go_enter Tryd.func5, Tryd.ntmps5
    go_wp2_with (go_at_call 6; refine (awake14 _ (HLV.out.below HB.out)).mono ?_; rintro e wz ⟨rfl, hb⟩; replace HB := hide (bel_next HB.out hb); clear hb)
    go_ret
    exact ⟨rfl, HB.out⟩
  have HNA := hide (fun W => Number14 a W (by omega))
  have HNB := hide (fun W => Number14 b W (by omega))
  have HWA := hide (fun W => Word14 a W (by omega))
  have HWB := hide (fun W => Word14 b W (by omega))
  have HRA := hide (fun W (hW : LV W) => ReadP14 a W (by unfold maxLen; omega) hW)
  have HRB : Hid (∀ S W, LV W → S = a ++ ⟨#[32]⟩ ++ b → Calls Tryd.prog 7 #[.string S] W (RdP S W)) := fun S W hW h => by
    subst h
    exact ReadP14 _ W (by rw [ByteArray.size_append, ByteArray.size_append]; unfold maxLen; show a.size + 1 + b.size ≤ _; omega) hW
  generalize valN (bytesL a) = za at HNA
  generalize valN (bytesL b) = zb at HNB
  rcases hna : numB (bytesL a) with _ | _
  · rcases hwa : wordB (bytesL a) with _ | _
    · rw [hna] at HNA
      rw [hwa] at HWA
      generalize numB (bytesL b) = nb at HNB
      generalize wordB (bytesL b) = wb at HWB
      clear hna hwa HRA HRB
      cases nb
      · go_enter Tryd.func5, Tryd.ntmps5
        go_upto_region 4 with (go_at_call 12; refine (HNA.out _).mono ?_; rintro e wnA ⟨rfl, hb⟩; replace HB := hide (bel_next HB.out hb); clear hb)
        go_upto_region 5 with (go_at_call 12; refine (HNB.out _).mono ?_; rintro e wnB ⟨rfl, hb⟩; replace HB := hide (bel_next HB.out hb); clear hb)
        go_upto_region 6 with (go_at_call 11; refine (HWA.out _).mono ?_; rintro e wwA ⟨rfl, hw9⟩; have hw8 := hw9.symm; subst hw8; clear hw9)
        go_upto_region 7 with (go_at_call 11; refine (HWB.out _).mono ?_; rintro e wwB ⟨rfl, hw9⟩; have hw8 := hw9.symm; subst hw8; clear hw9)
        go_wp2_with (go_at_call 6; refine (awake14 _ (HLV.out.below HB.out)).mono ?_; rintro e wz ⟨rfl, hb⟩; replace HB := hide (bel_next HB.out hb); clear hb)
        go_ret
        exact ⟨rfl, HB.out⟩
      · go_enter Tryd.func5, Tryd.ntmps5
        go_upto_region 4 with (go_at_call 12; refine (HNA.out _).mono ?_; rintro e wnA ⟨rfl, hb⟩; replace HB := hide (bel_next HB.out hb); clear hb)
        go_upto_region 5 with (go_at_call 12; refine (HNB.out _).mono ?_; rintro e wnB ⟨rfl, hb⟩; replace HB := hide (bel_next HB.out hb); clear hb)
        go_upto_region 6 with (go_at_call 11; refine (HWA.out _).mono ?_; rintro e wwA ⟨rfl, hw9⟩; have hw8 := hw9.symm; subst hw8; clear hw9)
        go_upto_region 7 with (go_at_call 11; refine (HWB.out _).mono ?_; rintro e wwB ⟨rfl, hw9⟩; have hw8 := hw9.symm; subst hw8; clear hw9)
        go_wp2_with (go_at_call 6; refine (awake14 _ (HLV.out.below HB.out)).mono ?_; rintro e wz ⟨rfl, hb⟩; replace HB := hide (bel_next HB.out hb); clear hb)
        go_ret
        exact ⟨rfl, HB.out⟩
    · rcases hnb : numB (bytesL b) with _ | _
      · rcases hwb : wordB (bytesL b) with _ | _
        · rw [hna] at HNA
          rw [hwa] at HWA
          rw [hnb] at HNB
          rw [hwb] at HWB
          clear hna hwa hnb hwb HRA HRB
          go_enter Tryd.func5, Tryd.ntmps5
          go_upto_region 4 with (go_at_call 12; refine (HNA.out _).mono ?_; rintro e wnA ⟨rfl, hb⟩; replace HB := hide (bel_next HB.out hb); clear hb)
          go_upto_region 5 with (go_at_call 12; refine (HNB.out _).mono ?_; rintro e wnB ⟨rfl, hb⟩; replace HB := hide (bel_next HB.out hb); clear hb)
          go_upto_region 6 with (go_at_call 11; refine (HWA.out _).mono ?_; rintro e wwA ⟨rfl, hw9⟩; have hw8 := hw9.symm; subst hw8; clear hw9)
          go_upto_region 7 with (go_at_call 11; refine (HWB.out _).mono ?_; rintro e wwB ⟨rfl, hw9⟩; have hw8 := hw9.symm; subst hw8; clear hw9)
          go_wp2_with (go_at_call 6; refine (awake14 _ (HLV.out.below HB.out)).mono ?_; rintro e wz ⟨rfl, hb⟩; replace HB := hide (bel_next HB.out hb); clear hb)
          go_ret
          exact ⟨rfl, HB.out⟩
        · rw [hna] at HNA
          rw [hwa] at HWA
          rw [hnb] at HNB
          rw [hwb] at HWB
          obtain ⟨t1, t2, e1, e2, hl1, hl2⟩ := words14 (.inr hwa) (.inr hwb) (by rw [bytesL_sz]; omega) (by rw [bytesL_sz]; omega)
          have HL1 := hide hl1
          have HL2 := hide hl2
          clear hl1 hl2 hna hwa hnb hwb
          go_enter Tryd.func5, Tryd.ntmps5
          go_upto_region 4 with (go_at_call 12; refine (HNA.out _).mono ?_; rintro e wnA ⟨rfl, hb⟩; replace HB := hide (bel_next HB.out hb); clear hb)
          go_upto_region 5 with (go_at_call 12; refine (HNB.out _).mono ?_; rintro e wnB ⟨rfl, hb⟩; replace HB := hide (bel_next HB.out hb); clear hb)
          go_upto_region 6 with (go_at_call 11; refine (HWA.out _).mono ?_; rintro e wwA ⟨rfl, hw9⟩; have hw8 := hw9.symm; subst hw8; clear hw9)
          go_upto_region 7 with (go_at_call 11; refine (HWB.out _).mono ?_; rintro e wwB ⟨rfl, hw9⟩; have hw8 := hw9.symm; subst hw8; clear hw9)
          go_upto_region 9 with fail
          go_upto_region 10 with (go_at_call 7; refine (HRA.out _ (HLV.out.below HB.out)).mono ?_; rintro e w3 ⟨p, c, ts, x, e0, rfl, hl, hk, _, hb⟩; have HL := hide hl; have HK := hide hk; replace HB := hide (bel_next HB.out hb); clear hl hk hb)
          obtain ⟨rfl, rfl, rfl⟩ : ts = [t1, e1] ∧ x = 0 ∧ e0 = 0 := by
            have q := HL.out
            rw [HL1.out] at q
            cases q
            exact ⟨rfl, rfl, rfl⟩
          go_upto_region 11 with (go_at_call 7; refine (HRB.out _ _ (HLV.out.below HB.out) rfl).mono ?_; rintro e w4 ⟨p2, c2, ts2, x2, e02, rfl, hl, hk, _, hb⟩; have HM := hide hl; have HK2 := hide hk; replace HK := hide (HK.out.below hb); replace HB := hide (bel_next HB.out hb); clear hl hk hb)
          obtain ⟨rfl, rfl, rfl⟩ : ts2 = [t1, t2, e2] ∧ x2 = 0 ∧ e02 = 0 := by
            have q := HM.out
            rw [bytesL_app, bytesL_app, List.append_assoc, show bytesL ⟨#[32]⟩ ++ bytesL b = 32 :: bytesL b from rfl, HL2.out] at q
            cases q
            exact ⟨rfl, rfl, rfl⟩
          obtain ⟨b1, o1, rfl⟩ := KS.addr HK.out (by simp)
          obtain ⟨b2, o2, rfl⟩ := KS.addr HK2.out (by simp)
          obtain ⟨kd, tx, nn, ln, hx, c0, c1, c2, c3⟩ := KS.at HK.out 0 (by simp)
          obtain ⟨kd', tx', nn', ln', hx', d0, d1, d2, d3⟩ := KS.at HK2.out 0 (by simp)
          obtain ⟨rfl, rfl, rfl, rfl⟩ : kd' = kd ∧ tx' = tx ∧ nn' = nn ∧ ln' = ln := by
            simp only [List.getElem?_cons_zero, Option.some.injEq] at hx hx'
            rw [hx] at hx'
            cases hx'
            exact ⟨rfl, rfl, rfl, rfl⟩
          have hq := eqK tx' tx'
          rw [decide_eq_true rfl] at hq
          clear hx hx' HK HK2 HL HM HL1 HL2
          simp only [Nat.zero_mul, Nat.add_zero] at c0 c1 c2 c3 d0 d1 d2 d3
          refine wp_region_held_drew (S := fun W => Below w4.heap.size w4 W) (by kernel_rfl) ((Below.refl _ w4).drew) (fun hS0 => ?_)
          refine takeInH 0 66 ?v1 rfl rfl (by kernel_rfl) (by kernel_rfl) (by kernel_rfl) (fun _ _ _ h => h) (by kernel_rfl) hS0 ?hy1 ?_
          case hy1 => (intro W hW; clear hW; go_simp; try rfl)
          simp only [Act.put, List.setIfInBounds_toArray, List.set_cons_zero, List.set_cons_succ]
          refine takeInH 1 67 ?v2 rfl rfl (by kernel_rfl) (by kernel_rfl) (by kernel_rfl) (fun _ _ _ h => h) (by kernel_rfl) hS0 ?hy2 ?_
          case hy2 => (intro W hW; clear hW; go_simp; try rfl)
          simp only [Act.put, List.setIfInBounds_toArray, List.set_cons_zero, List.set_cons_succ]
          refine takeInH 2 68 ?v3 rfl rfl (by kernel_rfl) (by kernel_rfl) (by kernel_rfl) (fun _ _ _ h => h) (by kernel_rfl) hS0 ?hy3 ?_
          case hy3 => (intro W hW; clear hW; go_simp; try rfl)
          simp only [Act.put, List.setIfInBounds_toArray, List.set_cons_zero, List.set_cons_succ]
          refine takeInH 3 69 ?v4 rfl rfl (by kernel_rfl) (by kernel_rfl) (by kernel_rfl) (fun _ _ _ h => h) (by kernel_rfl) hS0 ?hy4 ?_
          case hy4 => (intro W hW; clear hW; go_simp; try rfl)
          simp only [Act.put, List.setIfInBounds_toArray, List.set_cons_zero, List.set_cons_succ]
          refine takeInH 4 70 ?v5 rfl rfl (by kernel_rfl) (by kernel_rfl) (by kernel_rfl) (fun _ _ _ h => h) (by kernel_rfl) hS0 ?hy5 ?_
          case hy5 => (intro W hW; clear hW; go_simp; try rfl)
          simp only [Act.put, List.setIfInBounds_toArray, List.set_cons_zero, List.set_cons_succ]
          refine takeInH 5 71 ?v6 rfl rfl (by kernel_rfl) (by kernel_rfl) (by kernel_rfl) (fun _ _ _ h => h) (by kernel_rfl) hS0 ?hy6 ?_
          case hy6 => (intro W hW; clear hW; go_simp; try rfl)
          simp only [Act.put, List.setIfInBounds_toArray, List.set_cons_zero, List.set_cons_succ]
          refine takeInH 6 72 ?v7 rfl rfl (by kernel_rfl) (by kernel_rfl) (by kernel_rfl) (fun _ _ _ h => h) (by kernel_rfl) hS0 ?hy7 ?_
          case hy7 => (intro W hW; clear hW; go_simp; try rfl)
          simp only [Act.put, List.setIfInBounds_toArray, List.set_cons_zero, List.set_cons_succ]
          refine takeInH 7 73 ?v8 rfl rfl (by kernel_rfl) (by kernel_rfl) (by kernel_rfl) (fun _ _ _ h => h) (by kernel_rfl) hS0 ?hy8 ?_
          case hy8 => (intro W hW; clear hW; go_simp; try rfl)
          simp only [Act.put, List.setIfInBounds_toArray, List.set_cons_zero, List.set_cons_succ]
          refine takeInH 8 74 ?v9 rfl rfl (by kernel_rfl) (by kernel_rfl) (by kernel_rfl) (fun _ _ _ h => h) (by kernel_rfl) hS0 ?hy9 ?_
          case hy9 => (intro W hW; clear hW; go_simp; try rfl)
          simp only [Act.put, List.setIfInBounds_toArray, List.set_cons_zero, List.set_cons_succ]
          refine takeInH 9 75 ?v10 rfl rfl (by kernel_rfl) (by kernel_rfl) (by kernel_rfl) (fun _ _ _ h => h) (by kernel_rfl) hS0 ?hy10 ?_
          case hy10 => (intro W hW; clear hW; go_simp; try rfl)
          simp only [Act.put, List.setIfInBounds_toArray, List.set_cons_zero, List.set_cons_succ]
          refine takeInH 10 76 ?v11 rfl rfl (by kernel_rfl) (by kernel_rfl) (by kernel_rfl) (fun _ _ _ h => h) (by kernel_rfl) hS0 ?hy11 ?_
          case hy11 => (intro W hW; clear hW; go_simp; try rfl)
          simp only [Act.put, List.setIfInBounds_toArray, List.set_cons_zero, List.set_cons_succ]
          refine takeInH 11 77 ?v12 rfl rfl (by kernel_rfl) (by kernel_rfl) (by kernel_rfl) (fun _ _ _ h => h) (by kernel_rfl) hS0 ?hy12 ?_
          case hy12 => (intro W hW; clear hW; go_simp; try rfl)
          simp only [Act.put, List.setIfInBounds_toArray, List.set_cons_zero, List.set_cons_succ]
          refine takeInH 12 78 ?v13 rfl rfl (by kernel_rfl) (by kernel_rfl) (by kernel_rfl) (fun _ _ _ h => h) (by kernel_rfl) hS0 ?hy13 ?_
          case hy13 => (intro W hW; clear hW; go_simp; try rfl)
          simp only [Act.put, List.setIfInBounds_toArray, List.set_cons_zero, List.set_cons_succ]
          refine takeInH 13 79 ?v14 rfl rfl (by kernel_rfl) (by kernel_rfl) (by kernel_rfl) (fun _ _ _ h => h) (by kernel_rfl) hS0 ?hy14 ?_
          case hy14 => (intro W hW; clear hW; go_simp; try rfl)
          simp only [Act.put, List.setIfInBounds_toArray, List.set_cons_zero, List.set_cons_succ]
          refine takeInH 14 80 ?v15 rfl rfl (by kernel_rfl) (by kernel_rfl) (by kernel_rfl) (fun _ _ _ h => h) (by kernel_rfl) hS0 ?hy15 ?_
          case hy15 => (intro W hW; clear hW; go_simp; try rfl)
          simp only [Act.put, List.setIfInBounds_toArray, List.set_cons_zero, List.set_cons_succ]
          refine takeInH 15 81 ?v16 rfl rfl (by kernel_rfl) (by kernel_rfl) (by kernel_rfl) (fun _ _ _ h => h) (by kernel_rfl) hS0 ?hy16 ?_
          case hy16 => (intro W hW; clear hW; go_simp; try rfl)
          simp only [Act.put, List.setIfInBounds_toArray, List.set_cons_zero, List.set_cons_succ]
          refine takeInH 16 82 ?v17 rfl rfl (by kernel_rfl) (by kernel_rfl) (by kernel_rfl) (fun _ _ _ h => h) (by kernel_rfl) hS0 ?hy17 ?_
          case hy17 => (intro W hW; clear hW; go_simp; try rfl)
          simp only [Act.put, List.setIfInBounds_toArray, List.set_cons_zero, List.set_cons_succ]
          refine takeInH 17 83 ?v18 rfl rfl (by kernel_rfl) (by kernel_rfl) (by kernel_rfl) (fun _ _ _ h => h) (by kernel_rfl) hS0 ?hy18 ?_
          case hy18 => (intro W hW; clear hW; go_simp; try rfl)
          simp only [Act.put, List.setIfInBounds_toArray, List.set_cons_zero, List.set_cons_succ]
          refine takeInH 18 84 ?v19 rfl rfl (by kernel_rfl) (by kernel_rfl) (by kernel_rfl) (fun _ _ _ h => h) (by kernel_rfl) hS0 ?hy19 ?_
          case hy19 => (intro W hW; clear hW; go_simp; try rfl)
          simp only [Act.put, List.setIfInBounds_toArray, List.set_cons_zero, List.set_cons_succ]
          refine takeInH 19 85 ?v20 rfl rfl (by kernel_rfl) (by kernel_rfl) (by kernel_rfl) (fun _ _ _ h => h) (by kernel_rfl) hS0 ?hy20 ?_
          case hy20 => (intro W hW; have e0 := bcell hW c0; have e1 := bcell hW c1; have e2 := bcell hW c2; have e3 := bcell hW c3; have e4 := bcell hW d0; have e5 := bcell hW d1; have e6 := bcell hW d2; have e7 := bcell hW d3; clear hW; go_simp; try rfl)
          simp only [Act.put, List.setIfInBounds_toArray, List.set_cons_zero, List.set_cons_succ]
          refine takeInH 20 86 ?v21 rfl rfl (by kernel_rfl) (by kernel_rfl) (by kernel_rfl) (fun _ _ _ h => h) (by kernel_rfl) hS0 ?hy21 ?_
          case hy21 => (intro W hW; clear hW; go_simp; try rfl)
          simp only [Act.put, List.setIfInBounds_toArray, List.set_cons_zero, List.set_cons_succ]
          refine takeInH 21 87 ?v22 rfl rfl (by kernel_rfl) (by kernel_rfl) (by kernel_rfl) (fun _ _ _ h => h) (by kernel_rfl) hS0 ?hy22 ?_
          case hy22 => (intro W hW; clear hW; go_simp; try rfl)
          simp only [Act.put, List.setIfInBounds_toArray, List.set_cons_zero, List.set_cons_succ]
          refine takeInH 22 88 ?v23 rfl rfl (by kernel_rfl) (by kernel_rfl) (by kernel_rfl) (fun _ _ _ h => h) (by kernel_rfl) hS0 ?hy23 ?_
          case hy23 => (intro W hW; have e0 := bcell hW c0; have e1 := bcell hW c1; have e2 := bcell hW c2; have e3 := bcell hW c3; have e4 := bcell hW d0; have e5 := bcell hW d1; have e6 := bcell hW d2; have e7 := bcell hW d3; clear hW; go_simp; try rfl)
          simp only [Act.put, List.setIfInBounds_toArray, List.set_cons_zero, List.set_cons_succ]
          refine takeInH 23 89 ?v24 rfl rfl (by kernel_rfl) (by kernel_rfl) (by kernel_rfl) (fun _ _ _ h => h) (by kernel_rfl) hS0 ?hy24 ?_
          case hy24 => (intro W hW; clear hW; go_simp; try rfl)
          simp only [Act.put, List.setIfInBounds_toArray, List.set_cons_zero, List.set_cons_succ]
          refine takeInH 24 90 ?v25 rfl rfl (by kernel_rfl) (by kernel_rfl) (by kernel_rfl) (fun _ _ _ h => h) (by kernel_rfl) hS0 ?hy25 ?_
          case hy25 => (intro W hW; clear hW; go_simp; try rfl)
          simp only [Act.put, List.setIfInBounds_toArray, List.set_cons_zero, List.set_cons_succ]
          refine takeInH 25 91 ?v26 rfl rfl (by kernel_rfl) (by kernel_rfl) (by kernel_rfl) (fun _ _ _ h => h) (by kernel_rfl) hS0 ?hy26 ?_
          case hy26 => (intro W hW; clear hW; go_simp; try rfl)
          simp only [Act.put, List.setIfInBounds_toArray, List.set_cons_zero, List.set_cons_succ]
          refine wpAnyH_ready (rs := [26]) (by kernel_rfl) (by simp) ?_
          refine AllReadyH.cons rfl (fun K hK => ?_) AllReadyH.nil
          go_simp
          refine (awake14 _ (HLV.out.below (bel_next HB.out hS0))).mono ?_
          rintro e wz ⟨rfl, hb⟩
          refine hK.out _ _ ?hs27 (fun hS1 => ?_)
          case hs27 => exact bel_next hS0 hb
          clear hK K hb
          try simp only [Act.put, List.setIfInBounds_toArray, List.set_cons_zero, List.set_cons_succ]
          refine takeInH 27 93 ?v28 rfl rfl (by kernel_rfl) (by kernel_rfl) (by kernel_rfl) (fun _ _ _ h => h) (by kernel_rfl) hS1 ?hy28 ?_
          case hy28 => (intro W hW; clear hW; go_simp; try rfl)
          simp only [Act.put, List.setIfInBounds_toArray, List.set_cons_zero, List.set_cons_succ]
          refine takeInH 28 4 ?v29 rfl rfl (by kernel_rfl) (by kernel_rfl) (by kernel_rfl) (fun _ _ _ h => h) (by kernel_rfl) hS1 ?hy29 ?_
          case hy29 => (intro W hW; clear hW; go_simp; try rfl)
          simp only [Act.put, List.setIfInBounds_toArray, List.set_cons_zero, List.set_cons_succ]
          refine wpAnyH_done (by kernel_rfl) ?_ _
          go_wp2
          go_ret
          exact ⟨rfl, bel_next HB.out hS1⟩
      · rw [hna] at HNA
        rw [hwa] at HWA
        rw [hnb] at HNB
        generalize wordB (bytesL b) = wb at HWB
        obtain ⟨t1, t2, e1, e2, hl1, hl2⟩ := words14 (.inr hwa) (.inl hnb) (by rw [bytesL_sz]; omega) (by rw [bytesL_sz]; omega)
        have HL1 := hide hl1
        have HL2 := hide hl2
        clear hl1 hl2 hna hwa hnb
        go_enter Tryd.func5, Tryd.ntmps5
        go_upto_region 4 with (go_at_call 12; refine (HNA.out _).mono ?_; rintro e wnA ⟨rfl, hb⟩; replace HB := hide (bel_next HB.out hb); clear hb)
        go_upto_region 5 with (go_at_call 12; refine (HNB.out _).mono ?_; rintro e wnB ⟨rfl, hb⟩; replace HB := hide (bel_next HB.out hb); clear hb)
        go_upto_region 6 with (go_at_call 11; refine (HWA.out _).mono ?_; rintro e wwA ⟨rfl, hw9⟩; have hw8 := hw9.symm; subst hw8; clear hw9)
        go_upto_region 7 with (go_at_call 11; refine (HWB.out _).mono ?_; rintro e wwB ⟨rfl, hw9⟩; have hw8 := hw9.symm; subst hw8; clear hw9)
        go_upto_region 9 with fail
        go_upto_region 10 with (go_at_call 7; refine (HRA.out _ (HLV.out.below HB.out)).mono ?_; rintro e w3 ⟨p, c, ts, x, e0, rfl, hl, hk, _, hb⟩; have HL := hide hl; have HK := hide hk; replace HB := hide (bel_next HB.out hb); clear hl hk hb)
        obtain ⟨rfl, rfl, rfl⟩ : ts = [t1, e1] ∧ x = 0 ∧ e0 = 0 := by
          have q := HL.out
          rw [HL1.out] at q
          cases q
          exact ⟨rfl, rfl, rfl⟩
        go_upto_region 11 with (go_at_call 7; refine (HRB.out _ _ (HLV.out.below HB.out) rfl).mono ?_; rintro e w4 ⟨p2, c2, ts2, x2, e02, rfl, hl, hk, _, hb⟩; have HM := hide hl; have HK2 := hide hk; replace HK := hide (HK.out.below hb); replace HB := hide (bel_next HB.out hb); clear hl hk hb)
        obtain ⟨rfl, rfl, rfl⟩ : ts2 = [t1, t2, e2] ∧ x2 = 0 ∧ e02 = 0 := by
          have q := HM.out
          rw [bytesL_app, bytesL_app, List.append_assoc, show bytesL ⟨#[32]⟩ ++ bytesL b = 32 :: bytesL b from rfl, HL2.out] at q
          cases q
          exact ⟨rfl, rfl, rfl⟩
        obtain ⟨b1, o1, rfl⟩ := KS.addr HK.out (by simp)
        obtain ⟨b2, o2, rfl⟩ := KS.addr HK2.out (by simp)
        obtain ⟨kd, tx, nn, ln, hx, c0, c1, c2, c3⟩ := KS.at HK.out 0 (by simp)
        obtain ⟨kd', tx', nn', ln', hx', d0, d1, d2, d3⟩ := KS.at HK2.out 0 (by simp)
        obtain ⟨rfl, rfl, rfl, rfl⟩ : kd' = kd ∧ tx' = tx ∧ nn' = nn ∧ ln' = ln := by
          simp only [List.getElem?_cons_zero, Option.some.injEq] at hx hx'
          rw [hx] at hx'
          cases hx'
          exact ⟨rfl, rfl, rfl, rfl⟩
        have hq := eqK tx' tx'
        rw [decide_eq_true rfl] at hq
        clear hx hx' HK HK2 HL HM HL1 HL2
        simp only [Nat.zero_mul, Nat.add_zero] at c0 c1 c2 c3 d0 d1 d2 d3
        refine wp_region_held_drew (S := fun W => Below w4.heap.size w4 W) (by kernel_rfl) ((Below.refl _ w4).drew) (fun hS0 => ?_)
        refine takeInH 0 66 ?v30 rfl rfl (by kernel_rfl) (by kernel_rfl) (by kernel_rfl) (fun _ _ _ h => h) (by kernel_rfl) hS0 ?hy30 ?_
        case hy30 => (intro W hW; clear hW; go_simp; try rfl)
        simp only [Act.put, List.setIfInBounds_toArray, List.set_cons_zero, List.set_cons_succ]
        refine takeInH 1 67 ?v31 rfl rfl (by kernel_rfl) (by kernel_rfl) (by kernel_rfl) (fun _ _ _ h => h) (by kernel_rfl) hS0 ?hy31 ?_
        case hy31 => (intro W hW; clear hW; go_simp; try rfl)
        simp only [Act.put, List.setIfInBounds_toArray, List.set_cons_zero, List.set_cons_succ]
        refine takeInH 2 68 ?v32 rfl rfl (by kernel_rfl) (by kernel_rfl) (by kernel_rfl) (fun _ _ _ h => h) (by kernel_rfl) hS0 ?hy32 ?_
        case hy32 => (intro W hW; clear hW; go_simp; try rfl)
        simp only [Act.put, List.setIfInBounds_toArray, List.set_cons_zero, List.set_cons_succ]
        refine takeInH 3 69 ?v33 rfl rfl (by kernel_rfl) (by kernel_rfl) (by kernel_rfl) (fun _ _ _ h => h) (by kernel_rfl) hS0 ?hy33 ?_
        case hy33 => (intro W hW; clear hW; go_simp; try rfl)
        simp only [Act.put, List.setIfInBounds_toArray, List.set_cons_zero, List.set_cons_succ]
        refine takeInH 4 70 ?v34 rfl rfl (by kernel_rfl) (by kernel_rfl) (by kernel_rfl) (fun _ _ _ h => h) (by kernel_rfl) hS0 ?hy34 ?_
        case hy34 => (intro W hW; clear hW; go_simp; try rfl)
        simp only [Act.put, List.setIfInBounds_toArray, List.set_cons_zero, List.set_cons_succ]
        refine takeInH 5 71 ?v35 rfl rfl (by kernel_rfl) (by kernel_rfl) (by kernel_rfl) (fun _ _ _ h => h) (by kernel_rfl) hS0 ?hy35 ?_
        case hy35 => (intro W hW; clear hW; go_simp; try rfl)
        simp only [Act.put, List.setIfInBounds_toArray, List.set_cons_zero, List.set_cons_succ]
        refine takeInH 6 72 ?v36 rfl rfl (by kernel_rfl) (by kernel_rfl) (by kernel_rfl) (fun _ _ _ h => h) (by kernel_rfl) hS0 ?hy36 ?_
        case hy36 => (intro W hW; clear hW; go_simp; try rfl)
        simp only [Act.put, List.setIfInBounds_toArray, List.set_cons_zero, List.set_cons_succ]
        refine takeInH 7 73 ?v37 rfl rfl (by kernel_rfl) (by kernel_rfl) (by kernel_rfl) (fun _ _ _ h => h) (by kernel_rfl) hS0 ?hy37 ?_
        case hy37 => (intro W hW; clear hW; go_simp; try rfl)
        simp only [Act.put, List.setIfInBounds_toArray, List.set_cons_zero, List.set_cons_succ]
        refine takeInH 8 74 ?v38 rfl rfl (by kernel_rfl) (by kernel_rfl) (by kernel_rfl) (fun _ _ _ h => h) (by kernel_rfl) hS0 ?hy38 ?_
        case hy38 => (intro W hW; clear hW; go_simp; try rfl)
        simp only [Act.put, List.setIfInBounds_toArray, List.set_cons_zero, List.set_cons_succ]
        refine takeInH 9 75 ?v39 rfl rfl (by kernel_rfl) (by kernel_rfl) (by kernel_rfl) (fun _ _ _ h => h) (by kernel_rfl) hS0 ?hy39 ?_
        case hy39 => (intro W hW; clear hW; go_simp; try rfl)
        simp only [Act.put, List.setIfInBounds_toArray, List.set_cons_zero, List.set_cons_succ]
        refine takeInH 10 76 ?v40 rfl rfl (by kernel_rfl) (by kernel_rfl) (by kernel_rfl) (fun _ _ _ h => h) (by kernel_rfl) hS0 ?hy40 ?_
        case hy40 => (intro W hW; clear hW; go_simp; try rfl)
        simp only [Act.put, List.setIfInBounds_toArray, List.set_cons_zero, List.set_cons_succ]
        refine takeInH 11 77 ?v41 rfl rfl (by kernel_rfl) (by kernel_rfl) (by kernel_rfl) (fun _ _ _ h => h) (by kernel_rfl) hS0 ?hy41 ?_
        case hy41 => (intro W hW; clear hW; go_simp; try rfl)
        simp only [Act.put, List.setIfInBounds_toArray, List.set_cons_zero, List.set_cons_succ]
        refine takeInH 12 78 ?v42 rfl rfl (by kernel_rfl) (by kernel_rfl) (by kernel_rfl) (fun _ _ _ h => h) (by kernel_rfl) hS0 ?hy42 ?_
        case hy42 => (intro W hW; clear hW; go_simp; try rfl)
        simp only [Act.put, List.setIfInBounds_toArray, List.set_cons_zero, List.set_cons_succ]
        refine takeInH 13 79 ?v43 rfl rfl (by kernel_rfl) (by kernel_rfl) (by kernel_rfl) (fun _ _ _ h => h) (by kernel_rfl) hS0 ?hy43 ?_
        case hy43 => (intro W hW; clear hW; go_simp; try rfl)
        simp only [Act.put, List.setIfInBounds_toArray, List.set_cons_zero, List.set_cons_succ]
        refine takeInH 14 80 ?v44 rfl rfl (by kernel_rfl) (by kernel_rfl) (by kernel_rfl) (fun _ _ _ h => h) (by kernel_rfl) hS0 ?hy44 ?_
        case hy44 => (intro W hW; clear hW; go_simp; try rfl)
        simp only [Act.put, List.setIfInBounds_toArray, List.set_cons_zero, List.set_cons_succ]
        refine takeInH 15 81 ?v45 rfl rfl (by kernel_rfl) (by kernel_rfl) (by kernel_rfl) (fun _ _ _ h => h) (by kernel_rfl) hS0 ?hy45 ?_
        case hy45 => (intro W hW; clear hW; go_simp; try rfl)
        simp only [Act.put, List.setIfInBounds_toArray, List.set_cons_zero, List.set_cons_succ]
        refine takeInH 16 82 ?v46 rfl rfl (by kernel_rfl) (by kernel_rfl) (by kernel_rfl) (fun _ _ _ h => h) (by kernel_rfl) hS0 ?hy46 ?_
        case hy46 => (intro W hW; clear hW; go_simp; try rfl)
        simp only [Act.put, List.setIfInBounds_toArray, List.set_cons_zero, List.set_cons_succ]
        refine takeInH 17 83 ?v47 rfl rfl (by kernel_rfl) (by kernel_rfl) (by kernel_rfl) (fun _ _ _ h => h) (by kernel_rfl) hS0 ?hy47 ?_
        case hy47 => (intro W hW; clear hW; go_simp; try rfl)
        simp only [Act.put, List.setIfInBounds_toArray, List.set_cons_zero, List.set_cons_succ]
        refine takeInH 18 84 ?v48 rfl rfl (by kernel_rfl) (by kernel_rfl) (by kernel_rfl) (fun _ _ _ h => h) (by kernel_rfl) hS0 ?hy48 ?_
        case hy48 => (intro W hW; clear hW; go_simp; try rfl)
        simp only [Act.put, List.setIfInBounds_toArray, List.set_cons_zero, List.set_cons_succ]
        refine takeInH 19 85 ?v49 rfl rfl (by kernel_rfl) (by kernel_rfl) (by kernel_rfl) (fun _ _ _ h => h) (by kernel_rfl) hS0 ?hy49 ?_
        case hy49 => (intro W hW; have e0 := bcell hW c0; have e1 := bcell hW c1; have e2 := bcell hW c2; have e3 := bcell hW c3; have e4 := bcell hW d0; have e5 := bcell hW d1; have e6 := bcell hW d2; have e7 := bcell hW d3; clear hW; go_simp; try rfl)
        simp only [Act.put, List.setIfInBounds_toArray, List.set_cons_zero, List.set_cons_succ]
        refine takeInH 20 86 ?v50 rfl rfl (by kernel_rfl) (by kernel_rfl) (by kernel_rfl) (fun _ _ _ h => h) (by kernel_rfl) hS0 ?hy50 ?_
        case hy50 => (intro W hW; clear hW; go_simp; try rfl)
        simp only [Act.put, List.setIfInBounds_toArray, List.set_cons_zero, List.set_cons_succ]
        refine takeInH 21 87 ?v51 rfl rfl (by kernel_rfl) (by kernel_rfl) (by kernel_rfl) (fun _ _ _ h => h) (by kernel_rfl) hS0 ?hy51 ?_
        case hy51 => (intro W hW; clear hW; go_simp; try rfl)
        simp only [Act.put, List.setIfInBounds_toArray, List.set_cons_zero, List.set_cons_succ]
        refine takeInH 22 88 ?v52 rfl rfl (by kernel_rfl) (by kernel_rfl) (by kernel_rfl) (fun _ _ _ h => h) (by kernel_rfl) hS0 ?hy52 ?_
        case hy52 => (intro W hW; have e0 := bcell hW c0; have e1 := bcell hW c1; have e2 := bcell hW c2; have e3 := bcell hW c3; have e4 := bcell hW d0; have e5 := bcell hW d1; have e6 := bcell hW d2; have e7 := bcell hW d3; clear hW; go_simp; try rfl)
        simp only [Act.put, List.setIfInBounds_toArray, List.set_cons_zero, List.set_cons_succ]
        refine takeInH 23 89 ?v53 rfl rfl (by kernel_rfl) (by kernel_rfl) (by kernel_rfl) (fun _ _ _ h => h) (by kernel_rfl) hS0 ?hy53 ?_
        case hy53 => (intro W hW; clear hW; go_simp; try rfl)
        simp only [Act.put, List.setIfInBounds_toArray, List.set_cons_zero, List.set_cons_succ]
        refine takeInH 24 90 ?v54 rfl rfl (by kernel_rfl) (by kernel_rfl) (by kernel_rfl) (fun _ _ _ h => h) (by kernel_rfl) hS0 ?hy54 ?_
        case hy54 => (intro W hW; clear hW; go_simp; try rfl)
        simp only [Act.put, List.setIfInBounds_toArray, List.set_cons_zero, List.set_cons_succ]
        refine takeInH 25 91 ?v55 rfl rfl (by kernel_rfl) (by kernel_rfl) (by kernel_rfl) (fun _ _ _ h => h) (by kernel_rfl) hS0 ?hy55 ?_
        case hy55 => (intro W hW; clear hW; go_simp; try rfl)
        simp only [Act.put, List.setIfInBounds_toArray, List.set_cons_zero, List.set_cons_succ]
        refine wpAnyH_ready (rs := [26]) (by kernel_rfl) (by simp) ?_
        refine AllReadyH.cons rfl (fun K hK => ?_) AllReadyH.nil
        go_simp
        refine (awake14 _ (HLV.out.below (bel_next HB.out hS0))).mono ?_
        rintro e wz ⟨rfl, hb⟩
        refine hK.out _ _ ?hs56 (fun hS1 => ?_)
        case hs56 => exact bel_next hS0 hb
        clear hK K hb
        try simp only [Act.put, List.setIfInBounds_toArray, List.set_cons_zero, List.set_cons_succ]
        refine takeInH 27 93 ?v57 rfl rfl (by kernel_rfl) (by kernel_rfl) (by kernel_rfl) (fun _ _ _ h => h) (by kernel_rfl) hS1 ?hy57 ?_
        case hy57 => (intro W hW; clear hW; go_simp; try rfl)
        simp only [Act.put, List.setIfInBounds_toArray, List.set_cons_zero, List.set_cons_succ]
        refine takeInH 28 4 ?v58 rfl rfl (by kernel_rfl) (by kernel_rfl) (by kernel_rfl) (fun _ _ _ h => h) (by kernel_rfl) hS1 ?hy58 ?_
        case hy58 => (intro W hW; clear hW; go_simp; try rfl)
        simp only [Act.put, List.setIfInBounds_toArray, List.set_cons_zero, List.set_cons_succ]
        refine wpAnyH_done (by kernel_rfl) ?_ _
        go_wp2
        go_ret
        exact ⟨rfl, bel_next HB.out hS1⟩
  · generalize wordB (bytesL a) = wa at HWA
    rcases hnb : numB (bytesL b) with _ | _
    · rcases hwb : wordB (bytesL b) with _ | _
      · rw [hna] at HNA
        rw [hnb] at HNB
        rw [hwb] at HWB
        clear hna hnb hwb HRA HRB
        go_enter Tryd.func5, Tryd.ntmps5
        go_upto_region 4 with (go_at_call 12; refine (HNA.out _).mono ?_; rintro e wnA ⟨rfl, hb⟩; replace HB := hide (bel_next HB.out hb); clear hb)
        go_upto_region 5 with (go_at_call 12; refine (HNB.out _).mono ?_; rintro e wnB ⟨rfl, hb⟩; replace HB := hide (bel_next HB.out hb); clear hb)
        go_upto_region 6 with (go_at_call 11; refine (HWA.out _).mono ?_; rintro e wwA ⟨rfl, hw9⟩; have hw8 := hw9.symm; subst hw8; clear hw9)
        go_upto_region 7 with (go_at_call 11; refine (HWB.out _).mono ?_; rintro e wwB ⟨rfl, hw9⟩; have hw8 := hw9.symm; subst hw8; clear hw9)
        go_wp2_with (go_at_call 6; refine (awake14 _ (HLV.out.below HB.out)).mono ?_; rintro e wz ⟨rfl, hb⟩; replace HB := hide (bel_next HB.out hb); clear hb)
        go_ret
        exact ⟨rfl, HB.out⟩
      · rw [hna] at HNA
        rw [hnb] at HNB
        rw [hwb] at HWB
        obtain ⟨t1, t2, e1, e2, hl1, hl2⟩ := words14 (.inl hna) (.inr hwb) (by rw [bytesL_sz]; omega) (by rw [bytesL_sz]; omega)
        have HL1 := hide hl1
        have HL2 := hide hl2
        clear hl1 hl2 hna hnb hwb
        go_enter Tryd.func5, Tryd.ntmps5
        go_upto_region 4 with (go_at_call 12; refine (HNA.out _).mono ?_; rintro e wnA ⟨rfl, hb⟩; replace HB := hide (bel_next HB.out hb); clear hb)
        go_upto_region 5 with (go_at_call 12; refine (HNB.out _).mono ?_; rintro e wnB ⟨rfl, hb⟩; replace HB := hide (bel_next HB.out hb); clear hb)
        go_upto_region 6 with (go_at_call 11; refine (HWA.out _).mono ?_; rintro e wwA ⟨rfl, hw9⟩; have hw8 := hw9.symm; subst hw8; clear hw9)
        go_upto_region 7 with (go_at_call 11; refine (HWB.out _).mono ?_; rintro e wwB ⟨rfl, hw9⟩; have hw8 := hw9.symm; subst hw8; clear hw9)
        go_upto_region 9 with fail
        go_upto_region 10 with (go_at_call 7; refine (HRA.out _ (HLV.out.below HB.out)).mono ?_; rintro e w3 ⟨p, c, ts, x, e0, rfl, hl, hk, _, hb⟩; have HL := hide hl; have HK := hide hk; replace HB := hide (bel_next HB.out hb); clear hl hk hb)
        obtain ⟨rfl, rfl, rfl⟩ : ts = [t1, e1] ∧ x = 0 ∧ e0 = 0 := by
          have q := HL.out
          rw [HL1.out] at q
          cases q
          exact ⟨rfl, rfl, rfl⟩
        go_upto_region 11 with (go_at_call 7; refine (HRB.out _ _ (HLV.out.below HB.out) rfl).mono ?_; rintro e w4 ⟨p2, c2, ts2, x2, e02, rfl, hl, hk, _, hb⟩; have HM := hide hl; have HK2 := hide hk; replace HK := hide (HK.out.below hb); replace HB := hide (bel_next HB.out hb); clear hl hk hb)
        obtain ⟨rfl, rfl, rfl⟩ : ts2 = [t1, t2, e2] ∧ x2 = 0 ∧ e02 = 0 := by
          have q := HM.out
          rw [bytesL_app, bytesL_app, List.append_assoc, show bytesL ⟨#[32]⟩ ++ bytesL b = 32 :: bytesL b from rfl, HL2.out] at q
          cases q
          exact ⟨rfl, rfl, rfl⟩
        obtain ⟨b1, o1, rfl⟩ := KS.addr HK.out (by simp)
        obtain ⟨b2, o2, rfl⟩ := KS.addr HK2.out (by simp)
        obtain ⟨kd, tx, nn, ln, hx, c0, c1, c2, c3⟩ := KS.at HK.out 0 (by simp)
        obtain ⟨kd', tx', nn', ln', hx', d0, d1, d2, d3⟩ := KS.at HK2.out 0 (by simp)
        obtain ⟨rfl, rfl, rfl, rfl⟩ : kd' = kd ∧ tx' = tx ∧ nn' = nn ∧ ln' = ln := by
          simp only [List.getElem?_cons_zero, Option.some.injEq] at hx hx'
          rw [hx] at hx'
          cases hx'
          exact ⟨rfl, rfl, rfl, rfl⟩
        have hq := eqK tx' tx'
        rw [decide_eq_true rfl] at hq
        clear hx hx' HK HK2 HL HM HL1 HL2
        simp only [Nat.zero_mul, Nat.add_zero] at c0 c1 c2 c3 d0 d1 d2 d3
        refine wp_region_held_drew (S := fun W => Below w4.heap.size w4 W) (by kernel_rfl) ((Below.refl _ w4).drew) (fun hS0 => ?_)
        refine takeInH 0 66 ?v59 rfl rfl (by kernel_rfl) (by kernel_rfl) (by kernel_rfl) (fun _ _ _ h => h) (by kernel_rfl) hS0 ?hy59 ?_
        case hy59 => (intro W hW; clear hW; go_simp; try rfl)
        simp only [Act.put, List.setIfInBounds_toArray, List.set_cons_zero, List.set_cons_succ]
        refine takeInH 1 67 ?v60 rfl rfl (by kernel_rfl) (by kernel_rfl) (by kernel_rfl) (fun _ _ _ h => h) (by kernel_rfl) hS0 ?hy60 ?_
        case hy60 => (intro W hW; clear hW; go_simp; try rfl)
        simp only [Act.put, List.setIfInBounds_toArray, List.set_cons_zero, List.set_cons_succ]
        refine takeInH 2 68 ?v61 rfl rfl (by kernel_rfl) (by kernel_rfl) (by kernel_rfl) (fun _ _ _ h => h) (by kernel_rfl) hS0 ?hy61 ?_
        case hy61 => (intro W hW; clear hW; go_simp; try rfl)
        simp only [Act.put, List.setIfInBounds_toArray, List.set_cons_zero, List.set_cons_succ]
        refine takeInH 3 69 ?v62 rfl rfl (by kernel_rfl) (by kernel_rfl) (by kernel_rfl) (fun _ _ _ h => h) (by kernel_rfl) hS0 ?hy62 ?_
        case hy62 => (intro W hW; clear hW; go_simp; try rfl)
        simp only [Act.put, List.setIfInBounds_toArray, List.set_cons_zero, List.set_cons_succ]
        refine takeInH 4 70 ?v63 rfl rfl (by kernel_rfl) (by kernel_rfl) (by kernel_rfl) (fun _ _ _ h => h) (by kernel_rfl) hS0 ?hy63 ?_
        case hy63 => (intro W hW; clear hW; go_simp; try rfl)
        simp only [Act.put, List.setIfInBounds_toArray, List.set_cons_zero, List.set_cons_succ]
        refine takeInH 5 71 ?v64 rfl rfl (by kernel_rfl) (by kernel_rfl) (by kernel_rfl) (fun _ _ _ h => h) (by kernel_rfl) hS0 ?hy64 ?_
        case hy64 => (intro W hW; clear hW; go_simp; try rfl)
        simp only [Act.put, List.setIfInBounds_toArray, List.set_cons_zero, List.set_cons_succ]
        refine takeInH 6 72 ?v65 rfl rfl (by kernel_rfl) (by kernel_rfl) (by kernel_rfl) (fun _ _ _ h => h) (by kernel_rfl) hS0 ?hy65 ?_
        case hy65 => (intro W hW; clear hW; go_simp; try rfl)
        simp only [Act.put, List.setIfInBounds_toArray, List.set_cons_zero, List.set_cons_succ]
        refine takeInH 7 73 ?v66 rfl rfl (by kernel_rfl) (by kernel_rfl) (by kernel_rfl) (fun _ _ _ h => h) (by kernel_rfl) hS0 ?hy66 ?_
        case hy66 => (intro W hW; clear hW; go_simp; try rfl)
        simp only [Act.put, List.setIfInBounds_toArray, List.set_cons_zero, List.set_cons_succ]
        refine takeInH 8 74 ?v67 rfl rfl (by kernel_rfl) (by kernel_rfl) (by kernel_rfl) (fun _ _ _ h => h) (by kernel_rfl) hS0 ?hy67 ?_
        case hy67 => (intro W hW; clear hW; go_simp; try rfl)
        simp only [Act.put, List.setIfInBounds_toArray, List.set_cons_zero, List.set_cons_succ]
        refine takeInH 9 75 ?v68 rfl rfl (by kernel_rfl) (by kernel_rfl) (by kernel_rfl) (fun _ _ _ h => h) (by kernel_rfl) hS0 ?hy68 ?_
        case hy68 => (intro W hW; clear hW; go_simp; try rfl)
        simp only [Act.put, List.setIfInBounds_toArray, List.set_cons_zero, List.set_cons_succ]
        refine takeInH 10 76 ?v69 rfl rfl (by kernel_rfl) (by kernel_rfl) (by kernel_rfl) (fun _ _ _ h => h) (by kernel_rfl) hS0 ?hy69 ?_
        case hy69 => (intro W hW; clear hW; go_simp; try rfl)
        simp only [Act.put, List.setIfInBounds_toArray, List.set_cons_zero, List.set_cons_succ]
        refine takeInH 11 77 ?v70 rfl rfl (by kernel_rfl) (by kernel_rfl) (by kernel_rfl) (fun _ _ _ h => h) (by kernel_rfl) hS0 ?hy70 ?_
        case hy70 => (intro W hW; clear hW; go_simp; try rfl)
        simp only [Act.put, List.setIfInBounds_toArray, List.set_cons_zero, List.set_cons_succ]
        refine takeInH 12 78 ?v71 rfl rfl (by kernel_rfl) (by kernel_rfl) (by kernel_rfl) (fun _ _ _ h => h) (by kernel_rfl) hS0 ?hy71 ?_
        case hy71 => (intro W hW; clear hW; go_simp; try rfl)
        simp only [Act.put, List.setIfInBounds_toArray, List.set_cons_zero, List.set_cons_succ]
        refine takeInH 13 79 ?v72 rfl rfl (by kernel_rfl) (by kernel_rfl) (by kernel_rfl) (fun _ _ _ h => h) (by kernel_rfl) hS0 ?hy72 ?_
        case hy72 => (intro W hW; clear hW; go_simp; try rfl)
        simp only [Act.put, List.setIfInBounds_toArray, List.set_cons_zero, List.set_cons_succ]
        refine takeInH 14 80 ?v73 rfl rfl (by kernel_rfl) (by kernel_rfl) (by kernel_rfl) (fun _ _ _ h => h) (by kernel_rfl) hS0 ?hy73 ?_
        case hy73 => (intro W hW; clear hW; go_simp; try rfl)
        simp only [Act.put, List.setIfInBounds_toArray, List.set_cons_zero, List.set_cons_succ]
        refine takeInH 15 81 ?v74 rfl rfl (by kernel_rfl) (by kernel_rfl) (by kernel_rfl) (fun _ _ _ h => h) (by kernel_rfl) hS0 ?hy74 ?_
        case hy74 => (intro W hW; clear hW; go_simp; try rfl)
        simp only [Act.put, List.setIfInBounds_toArray, List.set_cons_zero, List.set_cons_succ]
        refine takeInH 16 82 ?v75 rfl rfl (by kernel_rfl) (by kernel_rfl) (by kernel_rfl) (fun _ _ _ h => h) (by kernel_rfl) hS0 ?hy75 ?_
        case hy75 => (intro W hW; clear hW; go_simp; try rfl)
        simp only [Act.put, List.setIfInBounds_toArray, List.set_cons_zero, List.set_cons_succ]
        refine takeInH 17 83 ?v76 rfl rfl (by kernel_rfl) (by kernel_rfl) (by kernel_rfl) (fun _ _ _ h => h) (by kernel_rfl) hS0 ?hy76 ?_
        case hy76 => (intro W hW; clear hW; go_simp; try rfl)
        simp only [Act.put, List.setIfInBounds_toArray, List.set_cons_zero, List.set_cons_succ]
        refine takeInH 18 84 ?v77 rfl rfl (by kernel_rfl) (by kernel_rfl) (by kernel_rfl) (fun _ _ _ h => h) (by kernel_rfl) hS0 ?hy77 ?_
        case hy77 => (intro W hW; clear hW; go_simp; try rfl)
        simp only [Act.put, List.setIfInBounds_toArray, List.set_cons_zero, List.set_cons_succ]
        refine takeInH 19 85 ?v78 rfl rfl (by kernel_rfl) (by kernel_rfl) (by kernel_rfl) (fun _ _ _ h => h) (by kernel_rfl) hS0 ?hy78 ?_
        case hy78 => (intro W hW; have e0 := bcell hW c0; have e1 := bcell hW c1; have e2 := bcell hW c2; have e3 := bcell hW c3; have e4 := bcell hW d0; have e5 := bcell hW d1; have e6 := bcell hW d2; have e7 := bcell hW d3; clear hW; go_simp; try rfl)
        simp only [Act.put, List.setIfInBounds_toArray, List.set_cons_zero, List.set_cons_succ]
        refine takeInH 20 86 ?v79 rfl rfl (by kernel_rfl) (by kernel_rfl) (by kernel_rfl) (fun _ _ _ h => h) (by kernel_rfl) hS0 ?hy79 ?_
        case hy79 => (intro W hW; clear hW; go_simp; try rfl)
        simp only [Act.put, List.setIfInBounds_toArray, List.set_cons_zero, List.set_cons_succ]
        refine takeInH 21 87 ?v80 rfl rfl (by kernel_rfl) (by kernel_rfl) (by kernel_rfl) (fun _ _ _ h => h) (by kernel_rfl) hS0 ?hy80 ?_
        case hy80 => (intro W hW; clear hW; go_simp; try rfl)
        simp only [Act.put, List.setIfInBounds_toArray, List.set_cons_zero, List.set_cons_succ]
        refine takeInH 22 88 ?v81 rfl rfl (by kernel_rfl) (by kernel_rfl) (by kernel_rfl) (fun _ _ _ h => h) (by kernel_rfl) hS0 ?hy81 ?_
        case hy81 => (intro W hW; have e0 := bcell hW c0; have e1 := bcell hW c1; have e2 := bcell hW c2; have e3 := bcell hW c3; have e4 := bcell hW d0; have e5 := bcell hW d1; have e6 := bcell hW d2; have e7 := bcell hW d3; clear hW; go_simp; try rfl)
        simp only [Act.put, List.setIfInBounds_toArray, List.set_cons_zero, List.set_cons_succ]
        refine takeInH 23 89 ?v82 rfl rfl (by kernel_rfl) (by kernel_rfl) (by kernel_rfl) (fun _ _ _ h => h) (by kernel_rfl) hS0 ?hy82 ?_
        case hy82 => (intro W hW; clear hW; go_simp; try rfl)
        simp only [Act.put, List.setIfInBounds_toArray, List.set_cons_zero, List.set_cons_succ]
        refine takeInH 24 90 ?v83 rfl rfl (by kernel_rfl) (by kernel_rfl) (by kernel_rfl) (fun _ _ _ h => h) (by kernel_rfl) hS0 ?hy83 ?_
        case hy83 => (intro W hW; clear hW; go_simp; try rfl)
        simp only [Act.put, List.setIfInBounds_toArray, List.set_cons_zero, List.set_cons_succ]
        refine takeInH 25 91 ?v84 rfl rfl (by kernel_rfl) (by kernel_rfl) (by kernel_rfl) (fun _ _ _ h => h) (by kernel_rfl) hS0 ?hy84 ?_
        case hy84 => (intro W hW; clear hW; go_simp; try rfl)
        simp only [Act.put, List.setIfInBounds_toArray, List.set_cons_zero, List.set_cons_succ]
        refine wpAnyH_ready (rs := [26]) (by kernel_rfl) (by simp) ?_
        refine AllReadyH.cons rfl (fun K hK => ?_) AllReadyH.nil
        go_simp
        refine (awake14 _ (HLV.out.below (bel_next HB.out hS0))).mono ?_
        rintro e wz ⟨rfl, hb⟩
        refine hK.out _ _ ?hs85 (fun hS1 => ?_)
        case hs85 => exact bel_next hS0 hb
        clear hK K hb
        try simp only [Act.put, List.setIfInBounds_toArray, List.set_cons_zero, List.set_cons_succ]
        refine takeInH 27 93 ?v86 rfl rfl (by kernel_rfl) (by kernel_rfl) (by kernel_rfl) (fun _ _ _ h => h) (by kernel_rfl) hS1 ?hy86 ?_
        case hy86 => (intro W hW; clear hW; go_simp; try rfl)
        simp only [Act.put, List.setIfInBounds_toArray, List.set_cons_zero, List.set_cons_succ]
        refine takeInH 28 4 ?v87 rfl rfl (by kernel_rfl) (by kernel_rfl) (by kernel_rfl) (fun _ _ _ h => h) (by kernel_rfl) hS1 ?hy87 ?_
        case hy87 => (intro W hW; clear hW; go_simp; try rfl)
        simp only [Act.put, List.setIfInBounds_toArray, List.set_cons_zero, List.set_cons_succ]
        refine wpAnyH_done (by kernel_rfl) ?_ _
        go_wp2
        go_ret
        exact ⟨rfl, bel_next HB.out hS1⟩
    · rw [hna] at HNA
      rw [hnb] at HNB
      generalize wordB (bytesL b) = wb at HWB
      obtain ⟨t1, t2, e1, e2, hl1, hl2⟩ := words14 (.inl hna) (.inl hnb) (by rw [bytesL_sz]; omega) (by rw [bytesL_sz]; omega)
      have HL1 := hide hl1
      have HL2 := hide hl2
      clear hl1 hl2 hna hnb
      go_enter Tryd.func5, Tryd.ntmps5
      go_upto_region 4 with (go_at_call 12; refine (HNA.out _).mono ?_; rintro e wnA ⟨rfl, hb⟩; replace HB := hide (bel_next HB.out hb); clear hb)
      go_upto_region 5 with (go_at_call 12; refine (HNB.out _).mono ?_; rintro e wnB ⟨rfl, hb⟩; replace HB := hide (bel_next HB.out hb); clear hb)
      go_upto_region 6 with (go_at_call 11; refine (HWA.out _).mono ?_; rintro e wwA ⟨rfl, hw9⟩; have hw8 := hw9.symm; subst hw8; clear hw9)
      go_upto_region 7 with (go_at_call 11; refine (HWB.out _).mono ?_; rintro e wwB ⟨rfl, hw9⟩; have hw8 := hw9.symm; subst hw8; clear hw9)
      go_upto_region 9 with fail
      go_upto_region 10 with (go_at_call 7; refine (HRA.out _ (HLV.out.below HB.out)).mono ?_; rintro e w3 ⟨p, c, ts, x, e0, rfl, hl, hk, _, hb⟩; have HL := hide hl; have HK := hide hk; replace HB := hide (bel_next HB.out hb); clear hl hk hb)
      obtain ⟨rfl, rfl, rfl⟩ : ts = [t1, e1] ∧ x = 0 ∧ e0 = 0 := by
        have q := HL.out
        rw [HL1.out] at q
        cases q
        exact ⟨rfl, rfl, rfl⟩
      go_upto_region 11 with (go_at_call 7; refine (HRB.out _ _ (HLV.out.below HB.out) rfl).mono ?_; rintro e w4 ⟨p2, c2, ts2, x2, e02, rfl, hl, hk, _, hb⟩; have HM := hide hl; have HK2 := hide hk; replace HK := hide (HK.out.below hb); replace HB := hide (bel_next HB.out hb); clear hl hk hb)
      obtain ⟨rfl, rfl, rfl⟩ : ts2 = [t1, t2, e2] ∧ x2 = 0 ∧ e02 = 0 := by
        have q := HM.out
        rw [bytesL_app, bytesL_app, List.append_assoc, show bytesL ⟨#[32]⟩ ++ bytesL b = 32 :: bytesL b from rfl, HL2.out] at q
        cases q
        exact ⟨rfl, rfl, rfl⟩
      obtain ⟨b1, o1, rfl⟩ := KS.addr HK.out (by simp)
      obtain ⟨b2, o2, rfl⟩ := KS.addr HK2.out (by simp)
      obtain ⟨kd, tx, nn, ln, hx, c0, c1, c2, c3⟩ := KS.at HK.out 0 (by simp)
      obtain ⟨kd', tx', nn', ln', hx', d0, d1, d2, d3⟩ := KS.at HK2.out 0 (by simp)
      obtain ⟨rfl, rfl, rfl, rfl⟩ : kd' = kd ∧ tx' = tx ∧ nn' = nn ∧ ln' = ln := by
        simp only [List.getElem?_cons_zero, Option.some.injEq] at hx hx'
        rw [hx] at hx'
        cases hx'
        exact ⟨rfl, rfl, rfl, rfl⟩
      have hq := eqK tx' tx'
      rw [decide_eq_true rfl] at hq
      clear hx hx' HK HK2 HL HM HL1 HL2
      simp only [Nat.zero_mul, Nat.add_zero] at c0 c1 c2 c3 d0 d1 d2 d3
      refine wp_region_held_drew (S := fun W => Below w4.heap.size w4 W) (by kernel_rfl) ((Below.refl _ w4).drew) (fun hS0 => ?_)
      refine takeInH 0 66 ?v88 rfl rfl (by kernel_rfl) (by kernel_rfl) (by kernel_rfl) (fun _ _ _ h => h) (by kernel_rfl) hS0 ?hy88 ?_
      case hy88 => (intro W hW; clear hW; go_simp; try rfl)
      simp only [Act.put, List.setIfInBounds_toArray, List.set_cons_zero, List.set_cons_succ]
      refine takeInH 1 67 ?v89 rfl rfl (by kernel_rfl) (by kernel_rfl) (by kernel_rfl) (fun _ _ _ h => h) (by kernel_rfl) hS0 ?hy89 ?_
      case hy89 => (intro W hW; clear hW; go_simp; try rfl)
      simp only [Act.put, List.setIfInBounds_toArray, List.set_cons_zero, List.set_cons_succ]
      refine takeInH 2 68 ?v90 rfl rfl (by kernel_rfl) (by kernel_rfl) (by kernel_rfl) (fun _ _ _ h => h) (by kernel_rfl) hS0 ?hy90 ?_
      case hy90 => (intro W hW; clear hW; go_simp; try rfl)
      simp only [Act.put, List.setIfInBounds_toArray, List.set_cons_zero, List.set_cons_succ]
      refine takeInH 3 69 ?v91 rfl rfl (by kernel_rfl) (by kernel_rfl) (by kernel_rfl) (fun _ _ _ h => h) (by kernel_rfl) hS0 ?hy91 ?_
      case hy91 => (intro W hW; clear hW; go_simp; try rfl)
      simp only [Act.put, List.setIfInBounds_toArray, List.set_cons_zero, List.set_cons_succ]
      refine takeInH 4 70 ?v92 rfl rfl (by kernel_rfl) (by kernel_rfl) (by kernel_rfl) (fun _ _ _ h => h) (by kernel_rfl) hS0 ?hy92 ?_
      case hy92 => (intro W hW; clear hW; go_simp; try rfl)
      simp only [Act.put, List.setIfInBounds_toArray, List.set_cons_zero, List.set_cons_succ]
      refine takeInH 5 71 ?v93 rfl rfl (by kernel_rfl) (by kernel_rfl) (by kernel_rfl) (fun _ _ _ h => h) (by kernel_rfl) hS0 ?hy93 ?_
      case hy93 => (intro W hW; clear hW; go_simp; try rfl)
      simp only [Act.put, List.setIfInBounds_toArray, List.set_cons_zero, List.set_cons_succ]
      refine takeInH 6 72 ?v94 rfl rfl (by kernel_rfl) (by kernel_rfl) (by kernel_rfl) (fun _ _ _ h => h) (by kernel_rfl) hS0 ?hy94 ?_
      case hy94 => (intro W hW; clear hW; go_simp; try rfl)
      simp only [Act.put, List.setIfInBounds_toArray, List.set_cons_zero, List.set_cons_succ]
      refine takeInH 7 73 ?v95 rfl rfl (by kernel_rfl) (by kernel_rfl) (by kernel_rfl) (fun _ _ _ h => h) (by kernel_rfl) hS0 ?hy95 ?_
      case hy95 => (intro W hW; clear hW; go_simp; try rfl)
      simp only [Act.put, List.setIfInBounds_toArray, List.set_cons_zero, List.set_cons_succ]
      refine takeInH 8 74 ?v96 rfl rfl (by kernel_rfl) (by kernel_rfl) (by kernel_rfl) (fun _ _ _ h => h) (by kernel_rfl) hS0 ?hy96 ?_
      case hy96 => (intro W hW; clear hW; go_simp; try rfl)
      simp only [Act.put, List.setIfInBounds_toArray, List.set_cons_zero, List.set_cons_succ]
      refine takeInH 9 75 ?v97 rfl rfl (by kernel_rfl) (by kernel_rfl) (by kernel_rfl) (fun _ _ _ h => h) (by kernel_rfl) hS0 ?hy97 ?_
      case hy97 => (intro W hW; clear hW; go_simp; try rfl)
      simp only [Act.put, List.setIfInBounds_toArray, List.set_cons_zero, List.set_cons_succ]
      refine takeInH 10 76 ?v98 rfl rfl (by kernel_rfl) (by kernel_rfl) (by kernel_rfl) (fun _ _ _ h => h) (by kernel_rfl) hS0 ?hy98 ?_
      case hy98 => (intro W hW; clear hW; go_simp; try rfl)
      simp only [Act.put, List.setIfInBounds_toArray, List.set_cons_zero, List.set_cons_succ]
      refine takeInH 11 77 ?v99 rfl rfl (by kernel_rfl) (by kernel_rfl) (by kernel_rfl) (fun _ _ _ h => h) (by kernel_rfl) hS0 ?hy99 ?_
      case hy99 => (intro W hW; clear hW; go_simp; try rfl)
      simp only [Act.put, List.setIfInBounds_toArray, List.set_cons_zero, List.set_cons_succ]
      refine takeInH 12 78 ?v100 rfl rfl (by kernel_rfl) (by kernel_rfl) (by kernel_rfl) (fun _ _ _ h => h) (by kernel_rfl) hS0 ?hy100 ?_
      case hy100 => (intro W hW; clear hW; go_simp; try rfl)
      simp only [Act.put, List.setIfInBounds_toArray, List.set_cons_zero, List.set_cons_succ]
      refine takeInH 13 79 ?v101 rfl rfl (by kernel_rfl) (by kernel_rfl) (by kernel_rfl) (fun _ _ _ h => h) (by kernel_rfl) hS0 ?hy101 ?_
      case hy101 => (intro W hW; clear hW; go_simp; try rfl)
      simp only [Act.put, List.setIfInBounds_toArray, List.set_cons_zero, List.set_cons_succ]
      refine takeInH 14 80 ?v102 rfl rfl (by kernel_rfl) (by kernel_rfl) (by kernel_rfl) (fun _ _ _ h => h) (by kernel_rfl) hS0 ?hy102 ?_
      case hy102 => (intro W hW; clear hW; go_simp; try rfl)
      simp only [Act.put, List.setIfInBounds_toArray, List.set_cons_zero, List.set_cons_succ]
      refine takeInH 15 81 ?v103 rfl rfl (by kernel_rfl) (by kernel_rfl) (by kernel_rfl) (fun _ _ _ h => h) (by kernel_rfl) hS0 ?hy103 ?_
      case hy103 => (intro W hW; clear hW; go_simp; try rfl)
      simp only [Act.put, List.setIfInBounds_toArray, List.set_cons_zero, List.set_cons_succ]
      refine takeInH 16 82 ?v104 rfl rfl (by kernel_rfl) (by kernel_rfl) (by kernel_rfl) (fun _ _ _ h => h) (by kernel_rfl) hS0 ?hy104 ?_
      case hy104 => (intro W hW; clear hW; go_simp; try rfl)
      simp only [Act.put, List.setIfInBounds_toArray, List.set_cons_zero, List.set_cons_succ]
      refine takeInH 17 83 ?v105 rfl rfl (by kernel_rfl) (by kernel_rfl) (by kernel_rfl) (fun _ _ _ h => h) (by kernel_rfl) hS0 ?hy105 ?_
      case hy105 => (intro W hW; clear hW; go_simp; try rfl)
      simp only [Act.put, List.setIfInBounds_toArray, List.set_cons_zero, List.set_cons_succ]
      refine takeInH 18 84 ?v106 rfl rfl (by kernel_rfl) (by kernel_rfl) (by kernel_rfl) (fun _ _ _ h => h) (by kernel_rfl) hS0 ?hy106 ?_
      case hy106 => (intro W hW; clear hW; go_simp; try rfl)
      simp only [Act.put, List.setIfInBounds_toArray, List.set_cons_zero, List.set_cons_succ]
      refine takeInH 19 85 ?v107 rfl rfl (by kernel_rfl) (by kernel_rfl) (by kernel_rfl) (fun _ _ _ h => h) (by kernel_rfl) hS0 ?hy107 ?_
      case hy107 => (intro W hW; have e0 := bcell hW c0; have e1 := bcell hW c1; have e2 := bcell hW c2; have e3 := bcell hW c3; have e4 := bcell hW d0; have e5 := bcell hW d1; have e6 := bcell hW d2; have e7 := bcell hW d3; clear hW; go_simp; try rfl)
      simp only [Act.put, List.setIfInBounds_toArray, List.set_cons_zero, List.set_cons_succ]
      refine takeInH 20 86 ?v108 rfl rfl (by kernel_rfl) (by kernel_rfl) (by kernel_rfl) (fun _ _ _ h => h) (by kernel_rfl) hS0 ?hy108 ?_
      case hy108 => (intro W hW; clear hW; go_simp; try rfl)
      simp only [Act.put, List.setIfInBounds_toArray, List.set_cons_zero, List.set_cons_succ]
      refine takeInH 21 87 ?v109 rfl rfl (by kernel_rfl) (by kernel_rfl) (by kernel_rfl) (fun _ _ _ h => h) (by kernel_rfl) hS0 ?hy109 ?_
      case hy109 => (intro W hW; clear hW; go_simp; try rfl)
      simp only [Act.put, List.setIfInBounds_toArray, List.set_cons_zero, List.set_cons_succ]
      refine takeInH 22 88 ?v110 rfl rfl (by kernel_rfl) (by kernel_rfl) (by kernel_rfl) (fun _ _ _ h => h) (by kernel_rfl) hS0 ?hy110 ?_
      case hy110 => (intro W hW; have e0 := bcell hW c0; have e1 := bcell hW c1; have e2 := bcell hW c2; have e3 := bcell hW c3; have e4 := bcell hW d0; have e5 := bcell hW d1; have e6 := bcell hW d2; have e7 := bcell hW d3; clear hW; go_simp; try rfl)
      simp only [Act.put, List.setIfInBounds_toArray, List.set_cons_zero, List.set_cons_succ]
      refine takeInH 23 89 ?v111 rfl rfl (by kernel_rfl) (by kernel_rfl) (by kernel_rfl) (fun _ _ _ h => h) (by kernel_rfl) hS0 ?hy111 ?_
      case hy111 => (intro W hW; clear hW; go_simp; try rfl)
      simp only [Act.put, List.setIfInBounds_toArray, List.set_cons_zero, List.set_cons_succ]
      refine takeInH 24 90 ?v112 rfl rfl (by kernel_rfl) (by kernel_rfl) (by kernel_rfl) (fun _ _ _ h => h) (by kernel_rfl) hS0 ?hy112 ?_
      case hy112 => (intro W hW; clear hW; go_simp; try rfl)
      simp only [Act.put, List.setIfInBounds_toArray, List.set_cons_zero, List.set_cons_succ]
      refine takeInH 25 91 ?v113 rfl rfl (by kernel_rfl) (by kernel_rfl) (by kernel_rfl) (fun _ _ _ h => h) (by kernel_rfl) hS0 ?hy113 ?_
      case hy113 => (intro W hW; clear hW; go_simp; try rfl)
      simp only [Act.put, List.setIfInBounds_toArray, List.set_cons_zero, List.set_cons_succ]
      refine wpAnyH_ready (rs := [26]) (by kernel_rfl) (by simp) ?_
      refine AllReadyH.cons rfl (fun K hK => ?_) AllReadyH.nil
      go_simp
      refine (awake14 _ (HLV.out.below (bel_next HB.out hS0))).mono ?_
      rintro e wz ⟨rfl, hb⟩
      refine hK.out _ _ ?hs114 (fun hS1 => ?_)
      case hs114 => exact bel_next hS0 hb
      clear hK K hb
      try simp only [Act.put, List.setIfInBounds_toArray, List.set_cons_zero, List.set_cons_succ]
      refine takeInH 27 93 ?v115 rfl rfl (by kernel_rfl) (by kernel_rfl) (by kernel_rfl) (fun _ _ _ h => h) (by kernel_rfl) hS1 ?hy115 ?_
      case hy115 => (intro W hW; clear hW; go_simp; try rfl)
      simp only [Act.put, List.setIfInBounds_toArray, List.set_cons_zero, List.set_cons_succ]
      refine takeInH 28 4 ?v116 rfl rfl (by kernel_rfl) (by kernel_rfl) (by kernel_rfl) (fun _ _ _ h => h) (by kernel_rfl) hS1 ?hy116 ?_
      case hy116 => (intro W hW; clear hW; go_simp; try rfl)
      simp only [Act.put, List.setIfInBounds_toArray, List.set_cons_zero, List.set_cons_succ]
      refine wpAnyH_done (by kernel_rfl) ?_ _
      go_wp2
      go_ret
      exact ⟨rfl, bel_next HB.out hS1⟩

/-! ### The row's step -/
theorem door_met (os : Os) (args : Array Value) : laidMetH Tryd.prog Rows.lexWordsRow.laid ((World.doorLaid Tryd.prog 400 os).forCall (fun _ _ => 0) ⟨#[], args, []⟩).memory :=
  laidMetH_of_parts3 (fuel := 8) (laidMet_of_run' 8 (by kernel_rfl) (by kernel_rfl)) (by kernel_rfl) (by kernel_rfl)
set_option maxRecDepth 100000 in
theorem lifted (os : Os) (started : os.Started) (H : Type) (enc : TypeId × Value → H) :
    ReturnsInHanded {} Tryd.checked os 5 .any (fun w args => (Rows.lexWordsSpec.pre enc Tryd.prog Tryd.f5 Rows.lexWordsRow.domain false w args ∧ laidMetH Tryd.prog Rows.lexWordsRow.laid w) ∧ sizedMet enc Tryd.prog Tryd.f5 (OpenSpec.ofChange Rows.lexWordsSpec) false w args) (Rows.lexWordsSpec.post enc Tryd.prog Tryd.f5 false true false false) := by
  refine returnsInHanded_of_change_and (C := Tryd.checked) (X := fun w _ => laidMetH Tryd.prog Rows.lexWordsRow.laid w) (fun _ _ _ hh h => h.of_heap hh) own started (by kernel_rfl) Tryd.func5
    (ChangeSpec.witness_shaped (enc := enc) (C := Tryd.checked) (os := os) (X := fun w _ => laidMetH Tryd.prog Rows.lexWordsRow.laid w) false (World.doorLaid Tryd.prog 400 os) #[.string ⟨#[]⟩, .string ⟨#[]⟩] 8 rfl (World.shaped_of_RefB (by kernel_rfl) (by kernel_rfl)) (by kernel_rfl) (by kernel_rfl) (by kernel_rfl) (door_met os _)) ?_
  intro W base args ds gs before hval0 hW hcnd hz0 hL _
  have hval : ∀ (j : Nat) t v, Tryd.f5.params[j]? = some t → args[j]? = some v → Value.okWide Tryd.prog W .any base t v := hval0
  have hz : (DataW.weightsEach Tryd.prog (Tryd.f5.params.toList ++ Rows.lexWordsSpec.plain.varTypes Tryd.prog) (ds ++ gs)).all (· ≤ reachBytes) = true := hz0
  have hW' := hW
  obtain ⟨p, q, hA0, hV, rfl, hfz, hnd⟩ := hW
  have hA : DataW.TrodAll enc Tryd.prog W 0 (fun _ => true) true Tryd.f5.params.toList args.toList ds p := hA0
  rw [Tryd.params5] at hA hval hz
  obtain ⟨v0, vs0, d0, ds0, p0, q0, hargs, rfl, rfl, h0, r0⟩ := trodAll_cons hA
  obtain ⟨v1, vs1, d1, ds1, p1, q1, rfl, rfl, rfl, h1, r1⟩ := trodAll_cons r0
  obtain ⟨rfl, rfl, rfl⟩ := trodAll_nil r1
  obtain rfl : args = #[v0, v1] := by cases args; simp_all
  obtain ⟨rfl, rfl⟩ := trodVars_none hV
  have k0 := h0
  have lt0 : ∀ x ∈ p0, x.block < W.heap.size := by obtain ⟨m, hm⟩ := k0; exact DataW.trod_lt m _ _ _ hm
  have w0 : InS14 W v0 := in_str14 (hval 0 9 v0 rfl rfl) h0 (fun n hn => by have := List.all_eq_true.1 hz n (DataW.weights_mem_each (j := 0) (t := 9) rfl rfl n hn); simpa using this)
  have k1 := h1
  have lt1 : ∀ x ∈ p1, x.block < W.heap.size := by obtain ⟨m, hm⟩ := k1; exact DataW.trod_lt m _ _ _ hm
  have w1 : InS14 W v1 := in_str14 (hval 1 9 v1 rfl rfl) h1 (fun n hn => by have := List.all_eq_true.1 hz n (DataW.weights_mem_each (j := 1) (t := 9) rfl rfl n hn); simpa using this)
  clear hA0 hval0 hz0
  refine (walk v0 v1 W w0 w1 (lv_of hL)).mono fun e W' ⟨he, bel⟩ => ?_
  subst he
  exact ⟨_, rfl, _, _, _, [], _, [], hW', trodAll_mk1 (shut_bool Tryd.underlying4 _), (trodAll_cons_mk (Below.trod laidOut (by kernel_rfl) (of_decide_eq_true (by kernel_rfl)) k0 bel lt0) (trodAll_cons_mk (Below.trod laidOut (by kernel_rfl) (of_decide_eq_true (by kernel_rfl)) k1 bel lt1) trodAll_mk0)), rfl, bel.frame _, fun h => by cases h⟩

theorem over : Rows.lexWordsRow.holds Tryd.pinned (OpenSpec.ofChange Rows.lexWordsSpec) :=
  OpenClaim.holds_of_wide 5 Tryd.f5 rfl rfl rfl rfl rfl rfl rfl ⟨rfl, rfl, rfl, rfl, rfl⟩ rfl rfl rfl rfl rfl (by kernel_rfl) Tryd.func5 (by kernel_rfl)
    (of_decide_eq_true (by kernel_rfl)) (by unfold Func.isWrapper; first | (rw [if_pos (by decide +kernel)]; kernel_rfl) | (rw [if_neg (by decide +kernel)]; exact ⟨rfl, rfl⟩))
    (fun os started H enc _ => lifted os started H enc)
end Go.Proofs.YtklfldemikjgkaaDoor.lexWords
namespace Go.Proofs.YtklfldemikjgkaaDoor
open Go
theorem lexWords_plain (f : FuncId) (fn : Func) (hf : Tryd.pinned.checked.prog.funcNamed "huckster/hucksterlaw14.LexWords" = some f) (hfn : Tryd.pinned.checked.prog.funcs[f]? = some fn) :
    true = Tryd.pinned.checked.prog.looks [] ∧ ∀ (j : Nat) t, fn.params[j]? = some t → Tryd.pinned.checked.prog.wantsStandIn t = false := by
  obtain rfl : f = 5 := Option.some.inj ((show Tryd.prog.funcNamed "huckster/hucksterlaw14.LexWords" = some 5 by kernel_rfl).symm.trans hf) |>.symm
  obtain rfl : fn = Tryd.f5 := (Option.some.inj (Tryd.func5.symm.trans hfn)).symm
  refine ⟨by kernel_rfl, fun j t ht => ?_⟩
  rw [Tryd.params5] at ht
  have hm : t ∈ [9, 9] := by simpa using Array.mem_of_getElem? ht
  have hall : ([9, 9].all fun u => !Tryd.prog.wantsStandIn u) = true := by kernel_rfl
  exact (show Tryd.prog.wantsStandIn t = false by simpa using List.all_eq_true.1 hall t hm)
/-- The tied card. -/
theorem lexWords_holds : Rows.LexWordsCardSaid :=
  Claim7.holds_tied_plain_at .later [] _ _ _ _ lexWords.over (fun _ h => by cases h) (by kernel_rfl) (fun _ h => by cases h) lexWords_row_tie rfl ⟨rfl, rfl⟩ (by kernel_rfl) rfl lexWords_plain (by kernel_rfl)
end Go.Proofs.YtklfldemikjgkaaDoor
