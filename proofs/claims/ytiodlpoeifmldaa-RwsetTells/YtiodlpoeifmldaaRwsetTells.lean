/- Which keys any set has, it plain, and cleaned by any clock is as the document says. -/
import Derived.Test.YtiodlpoeifmldaaRows
import Derived.WalkKit
import Derived.ProofKit
import Derived.OpenShut
import Derived.ShutString
import Derived.ChangeOld
import Derived.Below
import Derived.SizedLaws
import Derived.Test.YtiodlpoeifmldaaZ17
import Derived.Test.YtiodlpoeifmldaaZ12
import Derived.Test.YtiodlpoeifmldaaZ16
import Derived.Test.YtiodlpoeifmldaaB5
import Derived.Test.YtiodlpoeifmldaaZ2
namespace Go.Proofs.Ytiodlpoeifmldaa.rwsetTells
open Go.ChangeShapes Go.WideShapes Go.ChangeAt Go.RowKit
set_option linter.unusedVariables false

theorem own : ownKnob Try.prog.godebug = none := by kernel_rfl
theorem laidOut : laidOutB Try.prog = true := by kernel_rfl

theorem has_len9 {l : List Dot} {n : Nat} (h : l.length = n) : decide ((0 : Int) < (n : Int)) = decide (l ≠ []) := by
  subst h
  rw [Bool.eq_iff_iff, decide_eq_true_iff, decide_eq_true_iff]
  rcases l with _ | ⟨x, l⟩
  · simp
  · simp
set_option maxRecDepth 4000 in
set_option maxHeartbeats 8000000 in
theorem walk (v0 : Value) (v1 : Value) (v2 : Value) (w : World) (w0 : InNs w v0) (w1 : InS w v1) (w2 : InN w v2) :
    Calls Try.prog 4 #[v0, v1, v2] w fun e w' => e = .returned (.bool true) ∧ Below w.heap.size w w' := by
  obtain ⟨a, n, cap, s, rfl, hA, hcp⟩ := w0
  obtain ⟨o, rfl⟩ := w1
  obtain ⟨pa, na, ca, c, rfl, hP, _⟩ := w2
  have HV := hide hA
  have HP := hide hP
  have HLEN := hide hA.len
  have BB : Hid (Below w.heap.size w w) := Below.refl _ _
  have hfd := field9L
  clear hA hP hcp
  go_enter Try.func4, Try.ntmps4
  go_wp2_with (go_at_call 7; refine (light8 a n cap s _ HV.out).mono ?_; rintro e w1 ⟨bl, rfl, hl, rfl⟩; refine Stop.at ?_)
  unfold Stop
  cases bl
  · clear hl
    go_wp2_with (go_at_call 8; refine (awake9 _).mono ?_; rintro e wz ⟨rfl, hb⟩)
    go_ret
    exact ⟨rfl, bel_next BB.out hb⟩
  · obtain ⟨hn30, hfew⟩ := hl rfl
    have HFW : Hid (∀ x ∈ s, x.2.1.length ≤ 900000 ∧ x.2.2.length ≤ 900000) := fun x hx => ⟨Nat.le_trans (hfew x hx).2.1 (by decide), Nat.le_trans (hfew x hx).2.2 (by decide)⟩
    have HFW9 : Hid (∀ x ∈ s, x.2.1.length ≤ 90000 ∧ x.2.2.length ≤ 90000) := fun x hx => ⟨Nat.le_trans (hfew x hx).2.1 (by decide), Nat.le_trans (hfew x hx).2.2 (by decide)⟩
    have HFM : Hid (∀ x ∈ s, x.2.1.length ≤ 100000 ∧ x.2.2.length ≤ 100000) := fun x hx => ⟨Nat.le_trans (hfew x hx).2.1 (by decide), Nat.le_trans (hfew x hx).2.2 (by decide)⟩
    clear hl hfew
    by_cases h1 : (o.size : Int) ≤ 100
    · by_cases h2 : (na : Int) ≤ 20
      · rcases hs : mayS9 s with _ | _
        · have HS1 := hide hs
          have HE : Hid (pl9 s = []) := by unfold Hid pl9; rw [hs]; rfl
          have HXN : Hid ((mayS9 s && mayC c) = false) := by unfold Hid; rw [hs]; rfl
          have HKY : Hid (∀ W, NSS W a n s → Calls Try.prog 19 #[.slice a n cap] W fun e w' => ∃ p cp, e = .returned (.slice p 0 cp) ∧ RS encS 1 w' p 0 [] ∧ CP p 0 cp ∧ Below W.heap.size W w') := fun W g => by
            have q := Keys9_any a n cap s W g HFW.out (by omega)
            rw [HE.out] at q
            exact q
          have HPY : Hid (∀ W, NSS W a n s → Calls Try.prog 20 #[.slice a n cap] W fun e w' => ∃ p cp, e = .returned (.slice p 0 cp) ∧ NSS w' p 0 [] ∧ CP p 0 cp ∧ Below W.heap.size W w') := fun W g => by
            have q := Plain9_any a n cap s W g HFW.out
            rw [HE.out] at q
            exact q
          have HHA : Hid (∀ W, NSS W a n s → Calls Try.prog 22 #[.slice a n cap, .string o] W fun e w' => e = .returned (.bool false) ∧ Below W.heap.size W w') := fun W g => by
            have q := Has9_any a n cap s o W g HFW.out
            rw [hs, Bool.false_and] at q
            exact q
          clear hs HE
          go_wp2_with (first | (go_at_call 19; refine (HKY.out _ (HV.out.below BB.out)).mono ?_; rintro e wy ⟨pk, ck, rfl, hrs, _, hb⟩; have HRKx := hide hrs; replace BB := hide (bel_next BB.out hb); (try replace HNP := hide (HNP.out.below hb)); (try replace HNX := hide (HNX.out.below hb)); (try replace HNW := hide (HNW.out.below hb)); clear hb; have HRK := HRKx; clear HRKx hrs) | (go_at_call 20; refine (HPY.out _ (HV.out.below BB.out)).mono ?_; rintro e wy ⟨pp, cp, rfl, hnp, _, hb⟩; have HNPx := hide hnp; replace BB := hide (bel_next BB.out hb); (try replace HRK := hide (HRK.out.below hb)); (try replace HNX := hide (HNX.out.below hb)); (try replace HNW := hide (HNW.out.below hb)); clear hb; have HNP := HNPx; clear HNPx hnp) | (go_at_call 21; refine (Clean9_bad a n cap s pa na ca c _ (HV.out.below BB.out) (HP.out.below BB.out) HXN.out).mono ?_; rintro e wy ⟨rfl, hb⟩; replace BB := hide (bel_next BB.out hb); (try replace HRK := hide (HRK.out.below hb)); (try replace HNP := hide (HNP.out.below hb)); (try replace HNX := hide (HNX.out.below hb)); (try replace HNW := hide (HNW.out.below hb)); clear hb) | (go_at_call 12; refine (May9_ref a n cap s _ (HV.out.below BB.out) HFM.out).mono ?_; rintro e wy ⟨rfl, hb⟩; rw [HS1.out]; replace BB := hide (bel_next BB.out hb); (try replace HRK := hide (HRK.out.below hb)); (try replace HNP := hide (HNP.out.below hb)); (try replace HNX := hide (HNX.out.below hb)); (try replace HNW := hide (HNW.out.below hb)); clear hb) | (go_at_call 22; refine (HHA.out _ (HV.out.below BB.out)).mono ?_; rintro e wy ⟨rfl, hb⟩; replace BB := hide (bel_next BB.out hb); (try replace HRK := hide (HRK.out.below hb)); (try replace HNP := hide (HNP.out.below hb)); (try replace HNX := hide (HNX.out.below hb)); (try replace HNW := hide (HNW.out.below hb)); clear hb) | (go_at_call 8; refine (awake9 _).mono ?_; rintro e wz ⟨rfl, hb⟩))
          go_ret
          exact ⟨rfl, bel_next BB.out hb⟩
        · have HS1 := hide hs
          have hsrt := (mayS9_iff.1 hs).2.1
          have HE : Hid (pl9 s = mapP plainF s) := by unfold Hid pl9; rw [if_pos hs]
          have HKY : Hid (∀ W, NSS W a n s → Calls Try.prog 19 #[.slice a n cap] W fun e w' => ∃ p cp, e = .returned (.slice p (mapP plainF s).length cp) ∧ RS encS 1 w' p (mapP plainF s).length ((mapP plainF s).map (·.1)) ∧ CP p (mapP plainF s).length cp ∧ Below W.heap.size W w') := fun W g => by
            have q := Keys9_any a n cap s W g HFW.out (by omega)
            rw [HE.out] at q
            exact q
          have HPY : Hid (∀ W, NSS W a n s → Calls Try.prog 20 #[.slice a n cap] W fun e w' => ∃ p cp, e = .returned (.slice p (mapP plainF s).length cp) ∧ NSS w' p (mapP plainF s).length (mapP plainF s) ∧ CP p (mapP plainF s).length cp ∧ Below W.heap.size W w') := fun W g => by
            have q := Plain9_any a n cap s W g HFW.out
            rw [HE.out] at q
            exact q
          have HPR : Hid (∀ W, NSS W a n s → Calls Try.prog 23 #[.slice a n cap] W fun e w' => ∃ p cp, e = .returned (.slice p (mapP plainF s).length cp) ∧ NSS w' p (mapP plainF s).length (mapP plainF s) ∧ CP p (mapP plainF s).length cp ∧ Below W.heap.size W w') := fun W g => Plain9_ref a n cap s W g hsrt (by omega) HFW9.out
          have HHA : Hid (∀ W, NSS W a n s → Calls Try.prog 22 #[.slice a n cap, .string o] W fun e w' => e = .returned (.bool (decide ((getP s o).1 ≠ []))) ∧ Below W.heap.size W w') := fun W g => by
            have q := Has9_any a n cap s o W g HFW.out
            rw [hs, Bool.true_and] at q
            exact q
          obtain ⟨bo, hbo⟩ : ∃ b, decide ((getP s o).1 ≠ []) = b := ⟨_, rfl⟩
          rw [hbo] at HHA
          have HBO : Hid (decide ((getP (mapP plainF s) o).1 ≠ []) = bo) := by
            unfold Hid
            rw [get_map plainF_nil hsrt]
            exact hbo
          clear hbo HE
          rcases hc : mayC c with _ | _
          · have HC1 := hide hc
            have HXN : Hid ((mayS9 s && mayC c) = false) := by unfold Hid; rw [hc, Bool.and_false]
            have hnP : (mapP plainF s).length ≤ 30 := by have := mapP_len plainF s; rw [HLEN.out] at this; omega
            clear hs hc hsrt
            generalize mapP plainF s = P at *
            generalize P.length = nP at *
            cases bo
            · go_upto_region 8 with (first | (go_at_call 19; refine (HKY.out _ (HV.out.below BB.out)).mono ?_; rintro e wy ⟨pk, ck, rfl, hrs, _, hb⟩; have HRKx := hide hrs; replace BB := hide (bel_next BB.out hb); (try replace HNP := hide (HNP.out.below hb)); (try replace HNX := hide (HNX.out.below hb)); (try replace HNW := hide (HNW.out.below hb)); clear hb; have HRK := HRKx; clear HRKx hrs) | (go_at_call 20; refine (HPY.out _ (HV.out.below BB.out)).mono ?_; rintro e wy ⟨pp, cp, rfl, hnp, _, hb⟩; have HNPx := hide hnp; replace BB := hide (bel_next BB.out hb); (try replace HRK := hide (HRK.out.below hb)); (try replace HNX := hide (HNX.out.below hb)); (try replace HNW := hide (HNW.out.below hb)); clear hb; have HNP := HNPx; clear HNPx hnp) | (go_at_call 21; refine (Clean9_bad a n cap s pa na ca c _ (HV.out.below BB.out) (HP.out.below BB.out) HXN.out).mono ?_; rintro e wy ⟨rfl, hb⟩; replace BB := hide (bel_next BB.out hb); (try replace HRK := hide (HRK.out.below hb)); (try replace HNP := hide (HNP.out.below hb)); (try replace HNX := hide (HNX.out.below hb)); (try replace HNW := hide (HNW.out.below hb)); clear hb) | (go_at_call 12; refine (May9_ref a n cap s _ (HV.out.below BB.out) HFM.out).mono ?_; rintro e wy ⟨rfl, hb⟩; rw [HS1.out]; replace BB := hide (bel_next BB.out hb); (try replace HRK := hide (HRK.out.below hb)); (try replace HNP := hide (HNP.out.below hb)); (try replace HNX := hide (HNX.out.below hb)); (try replace HNW := hide (HNW.out.below hb)); clear hb) | (go_at_call 23; refine (HPR.out _ (HV.out.below BB.out)).mono ?_; rintro e wy ⟨pw, cw, rfl, hnw, _, hb⟩; have HNWx := hide hnw; replace BB := hide (bel_next BB.out hb); (try replace HRK := hide (HRK.out.below hb)); (try replace HNP := hide (HNP.out.below hb)); (try replace HNX := hide (HNX.out.below hb)); clear hb; have HNW := HNWx; clear HNWx hnw))
              go_wp2_with (go_at_call 16; refine (SameS_ref pp nP cp P pw nP cw P _ HNP.out HNW.out).mono ?_; rintro e wy ⟨rfl, hb⟩; rw [decide_eq_true (rfl : P = P)]; replace BB := hide (bel_next BB.out hb); (try replace HRK := hide (HRK.out.below hb)); (try replace HNP := hide (HNP.out.below hb)); (try replace HNX := hide (HNX.out.below hb)); (try replace HNW := hide (HNW.out.below hb)); clear hb; refine Stop.at ?_)
              unfold Stop
              go_wp2_with (first | (go_at_call 22; refine (HHA.out _ (HV.out.below BB.out)).mono ?_; rintro e wy ⟨rfl, hb⟩; replace BB := hide (bel_next BB.out hb); (try replace HRK := hide (HRK.out.below hb)); (try replace HNP := hide (HNP.out.below hb)); (try replace HNX := hide (HNX.out.below hb)); (try replace HNW := hide (HNW.out.below hb)); clear hb) | (go_at_call 24; refine (GetP_ref pw nP cw P o _ HNW.out).mono ?_; rintro e wy ⟨v1, rfl, ⟨p1, n1, c1, pd1, nd1, cd1, rfl, hd1, _⟩, hb⟩; have hbz := (has_len9 hd1.1).trans HBO.out; have hz1 : n1 = 0 := (by simp at hbz; omega); clear hbz; subst hz1; replace BB := hide (bel_next BB.out hb); (try replace HRK := hide (HRK.out.below hb)); (try replace HNP := hide (HNP.out.below hb)); (try replace HNX := hide (HNX.out.below hb)); (try replace HNW := hide (HNW.out.below hb)); clear hb; clear hd1))
              have BW := BB
              have HRW := HRK
              have HNV := HNW
              skip
              clear BB HRK HNW HNP
              go_loopw [12] (fun i wr => ∃ k : Nat, k ≤ nP ∧ i = .int .i64 k ∧ Hid (Below wy.heap.size wy wr)) (fun i _ => nP - (intOf i).toNat)
              case atStart => exact ⟨0, by omega, rfl, Below.refl _ _⟩
              case round =>
                obtain ⟨k0, hk, rfl, HB⟩ := hrel
                by_cases hlt : k0 < nP
                · obtain ⟨b, off, rfl⟩ := HNV.out.addr (by omega)
                  obtain ⟨k, pl, nl, cl, pd, nd, cd, ll, mm, hx, c0, c1, c2, _, _, _, _⟩ := (HNV.out.below HB.out).at k0 hlt
                  obtain ⟨b', off', rfl, hcs⟩ : ∃ b off, pk = some ⟨b, off, none⟩ ∧ ∀ i x, (P.map (·.1))[i]? = some x → ∀ j v, (encS x)[j]? = some v → wr.cell? ⟨b, off + i * 1 + j, none⟩ = some v := by
                    rcases (HRW.out.below HB.out).2.2 with h | h
                    · omega
                    · exact h
                  have d0 : wr.cell? ⟨b', off' + k0, none⟩ = some (.string k) := by
                    have := hcs k0 k (by rw [List.getElem?_map, hx]; rfl) 0 _ rfl
                    simpa using this
                  have hk0 : (0 : Int) ≤ (k0 : Int) := by omega
                  have hk1 : (k0 : Int) < (nP : Int) := by omega
                  have hkk : (k.toList == k.toList) = true := by rw [eqK, decide_eq_true rfl]
                  clear hx hcs
                  go_upto_region 13 with fail
                  refine wp_region_held_drew (S := fun W => Below wr.heap.size wr W) (by kernel_rfl) ((Below.refl _ wr).drew) (fun hS0 => ?_)
                  refine takeInH 0 97 ?v45 rfl rfl (by kernel_rfl) (by kernel_rfl) (by kernel_rfl) (fun _ _ _ h => h) (by kernel_rfl) hS0 ?hy45 ?_
                  case hy45 => (intro W hW; clear hW; go_simp; try rfl)
                  simp only [Act.put, List.setIfInBounds_toArray, List.set_cons_zero, List.set_cons_succ]
                  refine takeInH 1 98 ?v46 rfl rfl (by kernel_rfl) (by kernel_rfl) (by kernel_rfl) (fun _ _ _ h => h) (by kernel_rfl) hS0 ?hy46 ?_
                  case hy46 => (intro W hW; clear hW; go_simp; try rfl)
                  simp only [Act.put, List.setIfInBounds_toArray, List.set_cons_zero, List.set_cons_succ]
                  refine takeInH 2 99 ?v47 rfl rfl (by kernel_rfl) (by kernel_rfl) (by kernel_rfl) (fun _ _ _ h => h) (by kernel_rfl) hS0 ?hy47 ?_
                  case hy47 => (intro W hW; clear hW; go_simp; try rfl)
                  simp only [Act.put, List.setIfInBounds_toArray, List.set_cons_zero, List.set_cons_succ]
                  refine takeInH 3 100 ?v48 rfl rfl (by kernel_rfl) (by kernel_rfl) (by kernel_rfl) (fun _ _ _ h => h) (by kernel_rfl) hS0 ?hy48 ?_
                  case hy48 => (intro W hW; have e0 := bcell hW c0; have e1 := bcell hW d0; clear hW; go_simp; try rfl)
                  simp only [Act.put, List.setIfInBounds_toArray, List.set_cons_zero, List.set_cons_succ]
                  refine takeInH 4 101 ?v49 rfl rfl (by kernel_rfl) (by kernel_rfl) (by kernel_rfl) (fun _ _ _ h => h) (by kernel_rfl) hS0 ?hy49 ?_
                  case hy49 => (intro W hW; clear hW; go_simp; try rfl)
                  simp only [Act.put, List.setIfInBounds_toArray, List.set_cons_zero, List.set_cons_succ]
                  refine takeInH 5 102 ?v50 rfl rfl (by kernel_rfl) (by kernel_rfl) (by kernel_rfl) (fun _ _ _ h => h) (by kernel_rfl) hS0 ?hy50 ?_
                  case hy50 => (intro W hW; clear hW; go_simp; try rfl)
                  simp only [Act.put, List.setIfInBounds_toArray, List.set_cons_zero, List.set_cons_succ]
                  refine takeInH 6 103 ?v51 rfl rfl (by kernel_rfl) (by kernel_rfl) (by kernel_rfl) (fun _ _ _ h => h) (by kernel_rfl) hS0 ?hy51 ?_
                  case hy51 => (intro W hW; clear hW; go_simp; try rfl)
                  simp only [Act.put, List.setIfInBounds_toArray, List.set_cons_zero, List.set_cons_succ]
                  refine takeInH 7 104 ?v52 rfl rfl (by kernel_rfl) (by kernel_rfl) (by kernel_rfl) (fun _ _ _ h => h) (by kernel_rfl) hS0 ?hy52 ?_
                  case hy52 => (intro W hW; clear hW; go_simp; try rfl)
                  simp only [Act.put, List.setIfInBounds_toArray, List.set_cons_zero, List.set_cons_succ]
                  refine takeInH 8 105 ?v53 rfl rfl (by kernel_rfl) (by kernel_rfl) (by kernel_rfl) (fun _ _ _ h => h) (by kernel_rfl) hS0 ?hy53 ?_
                  case hy53 => (intro W hW; have e0 := bcell hW c0; have e1 := bcell hW d0; clear hW; go_simp; try rfl)
                  simp only [Act.put, List.setIfInBounds_toArray, List.set_cons_zero, List.set_cons_succ]
                  refine takeInH 9 106 ?v54 rfl rfl (by kernel_rfl) (by kernel_rfl) (by kernel_rfl) (fun _ _ _ h => h) (by kernel_rfl) hS0 ?hy54 ?_
                  case hy54 => (intro W hW; clear hW; go_simp; try rfl)
                  simp only [Act.put, List.setIfInBounds_toArray, List.set_cons_zero, List.set_cons_succ]
                  refine wpAnyH_done (by kernel_rfl) ?_ _
                  go_wp2
                  go_roundw
                  case rel => exact ⟨k0 + 1, by omega, by go_num, (show Hid _ from bel_next HB.out hS0)⟩
                  case measure => simp [intOf]; omega
                · obtain rfl : k0 = nP := by omega
                  have BB := hide (bel_next BW.out HB.out)
                  skip
                  go_wp2_with (first | (go_at_call 14; refine (may_ref pa na ca c _ (HP.out.below BB.out)).mono ?_; rintro e wy2 ⟨rfl, rfl⟩; rw [HC1.out]) | (go_at_call 8; refine (awake9 _).mono ?_; rintro e wz ⟨rfl, hb⟩))
                  go_ret
                  exact ⟨rfl, bel_next BB.out hb⟩
            · go_upto_region 8 with (first | (go_at_call 19; refine (HKY.out _ (HV.out.below BB.out)).mono ?_; rintro e wy ⟨pk, ck, rfl, hrs, _, hb⟩; have HRKx := hide hrs; replace BB := hide (bel_next BB.out hb); (try replace HNP := hide (HNP.out.below hb)); (try replace HNX := hide (HNX.out.below hb)); (try replace HNW := hide (HNW.out.below hb)); clear hb; have HRK := HRKx; clear HRKx hrs) | (go_at_call 20; refine (HPY.out _ (HV.out.below BB.out)).mono ?_; rintro e wy ⟨pp, cp, rfl, hnp, _, hb⟩; have HNPx := hide hnp; replace BB := hide (bel_next BB.out hb); (try replace HRK := hide (HRK.out.below hb)); (try replace HNX := hide (HNX.out.below hb)); (try replace HNW := hide (HNW.out.below hb)); clear hb; have HNP := HNPx; clear HNPx hnp) | (go_at_call 21; refine (Clean9_bad a n cap s pa na ca c _ (HV.out.below BB.out) (HP.out.below BB.out) HXN.out).mono ?_; rintro e wy ⟨rfl, hb⟩; replace BB := hide (bel_next BB.out hb); (try replace HRK := hide (HRK.out.below hb)); (try replace HNP := hide (HNP.out.below hb)); (try replace HNX := hide (HNX.out.below hb)); (try replace HNW := hide (HNW.out.below hb)); clear hb) | (go_at_call 12; refine (May9_ref a n cap s _ (HV.out.below BB.out) HFM.out).mono ?_; rintro e wy ⟨rfl, hb⟩; rw [HS1.out]; replace BB := hide (bel_next BB.out hb); (try replace HRK := hide (HRK.out.below hb)); (try replace HNP := hide (HNP.out.below hb)); (try replace HNX := hide (HNX.out.below hb)); (try replace HNW := hide (HNW.out.below hb)); clear hb) | (go_at_call 23; refine (HPR.out _ (HV.out.below BB.out)).mono ?_; rintro e wy ⟨pw, cw, rfl, hnw, _, hb⟩; have HNWx := hide hnw; replace BB := hide (bel_next BB.out hb); (try replace HRK := hide (HRK.out.below hb)); (try replace HNP := hide (HNP.out.below hb)); (try replace HNX := hide (HNX.out.below hb)); clear hb; have HNW := HNWx; clear HNWx hnw))
              go_wp2_with (go_at_call 16; refine (SameS_ref pp nP cp P pw nP cw P _ HNP.out HNW.out).mono ?_; rintro e wy ⟨rfl, hb⟩; rw [decide_eq_true (rfl : P = P)]; replace BB := hide (bel_next BB.out hb); (try replace HRK := hide (HRK.out.below hb)); (try replace HNP := hide (HNP.out.below hb)); (try replace HNX := hide (HNX.out.below hb)); (try replace HNW := hide (HNW.out.below hb)); clear hb; refine Stop.at ?_)
              unfold Stop
              go_wp2_with (first | (go_at_call 22; refine (HHA.out _ (HV.out.below BB.out)).mono ?_; rintro e wy ⟨rfl, hb⟩; replace BB := hide (bel_next BB.out hb); (try replace HRK := hide (HRK.out.below hb)); (try replace HNP := hide (HNP.out.below hb)); (try replace HNX := hide (HNX.out.below hb)); (try replace HNW := hide (HNW.out.below hb)); clear hb) | (go_at_call 24; refine (GetP_ref pw nP cw P o _ HNW.out).mono ?_; rintro e wy ⟨v1, rfl, ⟨p1, n1, c1, pd1, nd1, cd1, rfl, hd1, _⟩, hb⟩; have hbz := (has_len9 hd1.1).trans HBO.out; have hz1 : 0 < n1 := (by simp at hbz; omega); have hz2 : (0 : Int) < (n1 : Int) := (by omega); have hz3 : ¬ n1 = 0 := (by omega); replace BB := hide (bel_next BB.out hb); (try replace HRK := hide (HRK.out.below hb)); (try replace HNP := hide (HNP.out.below hb)); (try replace HNX := hide (HNX.out.below hb)); (try replace HNW := hide (HNW.out.below hb)); clear hb; clear hd1))
              have BW := BB
              have HRW := HRK
              have HNV := HNW
              skip
              clear BB HRK HNW HNP
              go_loopw [12] (fun i wr => ∃ k : Nat, k ≤ nP ∧ i = .int .i64 k ∧ Hid (Below wy.heap.size wy wr)) (fun i _ => nP - (intOf i).toNat)
              case atStart => exact ⟨0, by omega, rfl, Below.refl _ _⟩
              case round =>
                obtain ⟨k0, hk, rfl, HB⟩ := hrel
                by_cases hlt : k0 < nP
                · obtain ⟨b, off, rfl⟩ := HNV.out.addr (by omega)
                  obtain ⟨k, pl, nl, cl, pd, nd, cd, ll, mm, hx, c0, c1, c2, _, _, _, _⟩ := (HNV.out.below HB.out).at k0 hlt
                  obtain ⟨b', off', rfl, hcs⟩ : ∃ b off, pk = some ⟨b, off, none⟩ ∧ ∀ i x, (P.map (·.1))[i]? = some x → ∀ j v, (encS x)[j]? = some v → wr.cell? ⟨b, off + i * 1 + j, none⟩ = some v := by
                    rcases (HRW.out.below HB.out).2.2 with h | h
                    · omega
                    · exact h
                  have d0 : wr.cell? ⟨b', off' + k0, none⟩ = some (.string k) := by
                    have := hcs k0 k (by rw [List.getElem?_map, hx]; rfl) 0 _ rfl
                    simpa using this
                  have hk0 : (0 : Int) ≤ (k0 : Int) := by omega
                  have hk1 : (k0 : Int) < (nP : Int) := by omega
                  have hkk : (k.toList == k.toList) = true := by rw [eqK, decide_eq_true rfl]
                  clear hx hcs
                  go_upto_region 13 with fail
                  refine wp_region_held_drew (S := fun W => Below wr.heap.size wr W) (by kernel_rfl) ((Below.refl _ wr).drew) (fun hS0 => ?_)
                  refine takeInH 0 97 ?v55 rfl rfl (by kernel_rfl) (by kernel_rfl) (by kernel_rfl) (fun _ _ _ h => h) (by kernel_rfl) hS0 ?hy55 ?_
                  case hy55 => (intro W hW; clear hW; go_simp; try rfl)
                  simp only [Act.put, List.setIfInBounds_toArray, List.set_cons_zero, List.set_cons_succ]
                  refine takeInH 1 98 ?v56 rfl rfl (by kernel_rfl) (by kernel_rfl) (by kernel_rfl) (fun _ _ _ h => h) (by kernel_rfl) hS0 ?hy56 ?_
                  case hy56 => (intro W hW; clear hW; go_simp; try rfl)
                  simp only [Act.put, List.setIfInBounds_toArray, List.set_cons_zero, List.set_cons_succ]
                  refine takeInH 2 99 ?v57 rfl rfl (by kernel_rfl) (by kernel_rfl) (by kernel_rfl) (fun _ _ _ h => h) (by kernel_rfl) hS0 ?hy57 ?_
                  case hy57 => (intro W hW; clear hW; go_simp; try rfl)
                  simp only [Act.put, List.setIfInBounds_toArray, List.set_cons_zero, List.set_cons_succ]
                  refine takeInH 3 100 ?v58 rfl rfl (by kernel_rfl) (by kernel_rfl) (by kernel_rfl) (fun _ _ _ h => h) (by kernel_rfl) hS0 ?hy58 ?_
                  case hy58 => (intro W hW; have e0 := bcell hW c0; have e1 := bcell hW d0; clear hW; go_simp; try rfl)
                  simp only [Act.put, List.setIfInBounds_toArray, List.set_cons_zero, List.set_cons_succ]
                  refine takeInH 4 101 ?v59 rfl rfl (by kernel_rfl) (by kernel_rfl) (by kernel_rfl) (fun _ _ _ h => h) (by kernel_rfl) hS0 ?hy59 ?_
                  case hy59 => (intro W hW; clear hW; go_simp; try rfl)
                  simp only [Act.put, List.setIfInBounds_toArray, List.set_cons_zero, List.set_cons_succ]
                  refine takeInH 5 102 ?v60 rfl rfl (by kernel_rfl) (by kernel_rfl) (by kernel_rfl) (fun _ _ _ h => h) (by kernel_rfl) hS0 ?hy60 ?_
                  case hy60 => (intro W hW; clear hW; go_simp; try rfl)
                  simp only [Act.put, List.setIfInBounds_toArray, List.set_cons_zero, List.set_cons_succ]
                  refine takeInH 6 103 ?v61 rfl rfl (by kernel_rfl) (by kernel_rfl) (by kernel_rfl) (fun _ _ _ h => h) (by kernel_rfl) hS0 ?hy61 ?_
                  case hy61 => (intro W hW; clear hW; go_simp; try rfl)
                  simp only [Act.put, List.setIfInBounds_toArray, List.set_cons_zero, List.set_cons_succ]
                  refine takeInH 7 104 ?v62 rfl rfl (by kernel_rfl) (by kernel_rfl) (by kernel_rfl) (fun _ _ _ h => h) (by kernel_rfl) hS0 ?hy62 ?_
                  case hy62 => (intro W hW; clear hW; go_simp; try rfl)
                  simp only [Act.put, List.setIfInBounds_toArray, List.set_cons_zero, List.set_cons_succ]
                  refine takeInH 8 105 ?v63 rfl rfl (by kernel_rfl) (by kernel_rfl) (by kernel_rfl) (fun _ _ _ h => h) (by kernel_rfl) hS0 ?hy63 ?_
                  case hy63 => (intro W hW; have e0 := bcell hW c0; have e1 := bcell hW d0; clear hW; go_simp; try rfl)
                  simp only [Act.put, List.setIfInBounds_toArray, List.set_cons_zero, List.set_cons_succ]
                  refine takeInH 9 106 ?v64 rfl rfl (by kernel_rfl) (by kernel_rfl) (by kernel_rfl) (fun _ _ _ h => h) (by kernel_rfl) hS0 ?hy64 ?_
                  case hy64 => (intro W hW; clear hW; go_simp; try rfl)
                  simp only [Act.put, List.setIfInBounds_toArray, List.set_cons_zero, List.set_cons_succ]
                  refine wpAnyH_done (by kernel_rfl) ?_ _
                  go_wp2
                  go_roundw
                  case rel => exact ⟨k0 + 1, by omega, by go_num, (show Hid _ from bel_next HB.out hS0)⟩
                  case measure => simp [intOf]; omega
                · obtain rfl : k0 = nP := by omega
                  have BB := hide (bel_next BW.out HB.out)
                  skip
                  go_wp2_with (first | (go_at_call 14; refine (may_ref pa na ca c _ (HP.out.below BB.out)).mono ?_; rintro e wy2 ⟨rfl, rfl⟩; rw [HC1.out]) | (go_at_call 8; refine (awake9 _).mono ?_; rintro e wz ⟨rfl, hb⟩))
                  go_ret
                  exact ⟨rfl, bel_next BB.out hb⟩
          · have HC1 := hide hc
            have HCL : Hid (∀ W, NSS W a n s → NS W pa na c → Calls Try.prog 21 #[.slice a n cap, .slice pa na ca] W fun e w' => ∃ p cp, e = .returned (.tuple #[.slice p (mapP (cleanF c) s).length cp, .int .i64 0]) ∧ NSS w' p (mapP (cleanF c) s).length (mapP (cleanF c) s) ∧ CP p (mapP (cleanF c) s).length cp ∧ Below W.heap.size W w') := fun W g1 g2 => Clean9_good a n cap s pa na ca c W g1 g2 HS1.out HC1.out HFW.out
            have HCR : Hid (∀ W, NSS W a n s → NS W pa na c → Calls Try.prog 25 #[.slice a n cap, .slice pa na ca] W fun e w' => ∃ p cp, e = .returned (.slice p (mapP (cleanF c) s).length cp) ∧ NSS w' p (mapP (cleanF c) s).length (mapP (cleanF c) s) ∧ CP p (mapP (cleanF c) s).length cp ∧ Below W.heap.size W w') := fun W g1 g2 => Clean9_ref a n cap s pa na ca c W g1 hsrt g2 (by omega) HFW9.out
            have hnP : (mapP plainF s).length ≤ 30 := by have := mapP_len plainF s; rw [HLEN.out] at this; omega
            clear hs hc hsrt
            generalize mapP plainF s = P at *
            generalize P.length = nP at *
            generalize mapP (cleanF c) s = X at *
            generalize X.length = nX at *
            cases bo
            · go_upto_region 8 with (first | (go_at_call 19; refine (HKY.out _ (HV.out.below BB.out)).mono ?_; rintro e wy ⟨pk, ck, rfl, hrs, _, hb⟩; have HRKx := hide hrs; replace BB := hide (bel_next BB.out hb); (try replace HNP := hide (HNP.out.below hb)); (try replace HNX := hide (HNX.out.below hb)); (try replace HNW := hide (HNW.out.below hb)); clear hb; have HRK := HRKx; clear HRKx hrs) | (go_at_call 20; refine (HPY.out _ (HV.out.below BB.out)).mono ?_; rintro e wy ⟨pp, cp, rfl, hnp, _, hb⟩; have HNPx := hide hnp; replace BB := hide (bel_next BB.out hb); (try replace HRK := hide (HRK.out.below hb)); (try replace HNX := hide (HNX.out.below hb)); (try replace HNW := hide (HNW.out.below hb)); clear hb; have HNP := HNPx; clear HNPx hnp) | (go_at_call 21; refine (HCL.out _ (HV.out.below BB.out) (HP.out.below BB.out)).mono ?_; rintro e wy ⟨px, cx, rfl, hnx, _, hb⟩; have HNXx := hide hnx; replace BB := hide (bel_next BB.out hb); (try replace HRK := hide (HRK.out.below hb)); (try replace HNP := hide (HNP.out.below hb)); (try replace HNW := hide (HNW.out.below hb)); clear hb; have HNX := HNXx; clear HNXx hnx) | (go_at_call 12; refine (May9_ref a n cap s _ (HV.out.below BB.out) HFM.out).mono ?_; rintro e wy ⟨rfl, hb⟩; rw [HS1.out]; replace BB := hide (bel_next BB.out hb); (try replace HRK := hide (HRK.out.below hb)); (try replace HNP := hide (HNP.out.below hb)); (try replace HNX := hide (HNX.out.below hb)); (try replace HNW := hide (HNW.out.below hb)); clear hb) | (go_at_call 23; refine (HPR.out _ (HV.out.below BB.out)).mono ?_; rintro e wy ⟨pw, cw, rfl, hnw, _, hb⟩; have HNWx := hide hnw; replace BB := hide (bel_next BB.out hb); (try replace HRK := hide (HRK.out.below hb)); (try replace HNP := hide (HNP.out.below hb)); (try replace HNX := hide (HNX.out.below hb)); clear hb; have HNW := HNWx; clear HNWx hnw))
              go_wp2_with (go_at_call 16; refine (SameS_ref pp nP cp P pw nP cw P _ HNP.out HNW.out).mono ?_; rintro e wy ⟨rfl, hb⟩; rw [decide_eq_true (rfl : P = P)]; replace BB := hide (bel_next BB.out hb); (try replace HRK := hide (HRK.out.below hb)); (try replace HNP := hide (HNP.out.below hb)); (try replace HNX := hide (HNX.out.below hb)); (try replace HNW := hide (HNW.out.below hb)); clear hb; refine Stop.at ?_)
              unfold Stop
              go_wp2_with (first | (go_at_call 22; refine (HHA.out _ (HV.out.below BB.out)).mono ?_; rintro e wy ⟨rfl, hb⟩; replace BB := hide (bel_next BB.out hb); (try replace HRK := hide (HRK.out.below hb)); (try replace HNP := hide (HNP.out.below hb)); (try replace HNX := hide (HNX.out.below hb)); (try replace HNW := hide (HNW.out.below hb)); clear hb) | (go_at_call 24; refine (GetP_ref pw nP cw P o _ HNW.out).mono ?_; rintro e wy ⟨v1, rfl, ⟨p1, n1, c1, pd1, nd1, cd1, rfl, hd1, _⟩, hb⟩; have hbz := (has_len9 hd1.1).trans HBO.out; have hz1 : n1 = 0 := (by simp at hbz; omega); clear hbz; subst hz1; replace BB := hide (bel_next BB.out hb); (try replace HRK := hide (HRK.out.below hb)); (try replace HNP := hide (HNP.out.below hb)); (try replace HNX := hide (HNX.out.below hb)); (try replace HNW := hide (HNW.out.below hb)); clear hb; clear hd1))
              have BW := BB
              have HRW := HRK
              have HNV := HNW
              have HNY := HNX
              clear BB HRK HNW HNP HNX
              go_loopw [12] (fun i wr => ∃ k : Nat, k ≤ nP ∧ i = .int .i64 k ∧ Hid (Below wy.heap.size wy wr)) (fun i _ => nP - (intOf i).toNat)
              case atStart => exact ⟨0, by omega, rfl, Below.refl _ _⟩
              case round =>
                obtain ⟨k0, hk, rfl, HB⟩ := hrel
                by_cases hlt : k0 < nP
                · obtain ⟨b, off, rfl⟩ := HNV.out.addr (by omega)
                  obtain ⟨k, pl, nl, cl, pd, nd, cd, ll, mm, hx, c0, c1, c2, _, _, _, _⟩ := (HNV.out.below HB.out).at k0 hlt
                  obtain ⟨b', off', rfl, hcs⟩ : ∃ b off, pk = some ⟨b, off, none⟩ ∧ ∀ i x, (P.map (·.1))[i]? = some x → ∀ j v, (encS x)[j]? = some v → wr.cell? ⟨b, off + i * 1 + j, none⟩ = some v := by
                    rcases (HRW.out.below HB.out).2.2 with h | h
                    · omega
                    · exact h
                  have d0 : wr.cell? ⟨b', off' + k0, none⟩ = some (.string k) := by
                    have := hcs k0 k (by rw [List.getElem?_map, hx]; rfl) 0 _ rfl
                    simpa using this
                  have hk0 : (0 : Int) ≤ (k0 : Int) := by omega
                  have hk1 : (k0 : Int) < (nP : Int) := by omega
                  have hkk : (k.toList == k.toList) = true := by rw [eqK, decide_eq_true rfl]
                  clear hx hcs
                  go_upto_region 13 with fail
                  refine wp_region_held_drew (S := fun W => Below wr.heap.size wr W) (by kernel_rfl) ((Below.refl _ wr).drew) (fun hS0 => ?_)
                  refine takeInH 0 97 ?v65 rfl rfl (by kernel_rfl) (by kernel_rfl) (by kernel_rfl) (fun _ _ _ h => h) (by kernel_rfl) hS0 ?hy65 ?_
                  case hy65 => (intro W hW; clear hW; go_simp; try rfl)
                  simp only [Act.put, List.setIfInBounds_toArray, List.set_cons_zero, List.set_cons_succ]
                  refine takeInH 1 98 ?v66 rfl rfl (by kernel_rfl) (by kernel_rfl) (by kernel_rfl) (fun _ _ _ h => h) (by kernel_rfl) hS0 ?hy66 ?_
                  case hy66 => (intro W hW; clear hW; go_simp; try rfl)
                  simp only [Act.put, List.setIfInBounds_toArray, List.set_cons_zero, List.set_cons_succ]
                  refine takeInH 2 99 ?v67 rfl rfl (by kernel_rfl) (by kernel_rfl) (by kernel_rfl) (fun _ _ _ h => h) (by kernel_rfl) hS0 ?hy67 ?_
                  case hy67 => (intro W hW; clear hW; go_simp; try rfl)
                  simp only [Act.put, List.setIfInBounds_toArray, List.set_cons_zero, List.set_cons_succ]
                  refine takeInH 3 100 ?v68 rfl rfl (by kernel_rfl) (by kernel_rfl) (by kernel_rfl) (fun _ _ _ h => h) (by kernel_rfl) hS0 ?hy68 ?_
                  case hy68 => (intro W hW; have e0 := bcell hW c0; have e1 := bcell hW d0; clear hW; go_simp; try rfl)
                  simp only [Act.put, List.setIfInBounds_toArray, List.set_cons_zero, List.set_cons_succ]
                  refine takeInH 4 101 ?v69 rfl rfl (by kernel_rfl) (by kernel_rfl) (by kernel_rfl) (fun _ _ _ h => h) (by kernel_rfl) hS0 ?hy69 ?_
                  case hy69 => (intro W hW; clear hW; go_simp; try rfl)
                  simp only [Act.put, List.setIfInBounds_toArray, List.set_cons_zero, List.set_cons_succ]
                  refine takeInH 5 102 ?v70 rfl rfl (by kernel_rfl) (by kernel_rfl) (by kernel_rfl) (fun _ _ _ h => h) (by kernel_rfl) hS0 ?hy70 ?_
                  case hy70 => (intro W hW; clear hW; go_simp; try rfl)
                  simp only [Act.put, List.setIfInBounds_toArray, List.set_cons_zero, List.set_cons_succ]
                  refine takeInH 6 103 ?v71 rfl rfl (by kernel_rfl) (by kernel_rfl) (by kernel_rfl) (fun _ _ _ h => h) (by kernel_rfl) hS0 ?hy71 ?_
                  case hy71 => (intro W hW; clear hW; go_simp; try rfl)
                  simp only [Act.put, List.setIfInBounds_toArray, List.set_cons_zero, List.set_cons_succ]
                  refine takeInH 7 104 ?v72 rfl rfl (by kernel_rfl) (by kernel_rfl) (by kernel_rfl) (fun _ _ _ h => h) (by kernel_rfl) hS0 ?hy72 ?_
                  case hy72 => (intro W hW; clear hW; go_simp; try rfl)
                  simp only [Act.put, List.setIfInBounds_toArray, List.set_cons_zero, List.set_cons_succ]
                  refine takeInH 8 105 ?v73 rfl rfl (by kernel_rfl) (by kernel_rfl) (by kernel_rfl) (fun _ _ _ h => h) (by kernel_rfl) hS0 ?hy73 ?_
                  case hy73 => (intro W hW; have e0 := bcell hW c0; have e1 := bcell hW d0; clear hW; go_simp; try rfl)
                  simp only [Act.put, List.setIfInBounds_toArray, List.set_cons_zero, List.set_cons_succ]
                  refine takeInH 9 106 ?v74 rfl rfl (by kernel_rfl) (by kernel_rfl) (by kernel_rfl) (fun _ _ _ h => h) (by kernel_rfl) hS0 ?hy74 ?_
                  case hy74 => (intro W hW; clear hW; go_simp; try rfl)
                  simp only [Act.put, List.setIfInBounds_toArray, List.set_cons_zero, List.set_cons_succ]
                  refine wpAnyH_done (by kernel_rfl) ?_ _
                  go_wp2
                  go_roundw
                  case rel => exact ⟨k0 + 1, by omega, by go_num, (show Hid _ from bel_next HB.out hS0)⟩
                  case measure => simp [intOf]; omega
                · obtain rfl : k0 = nP := by omega
                  have BB := hide (bel_next BW.out HB.out)
                  have HNX := hide (HNY.out.below HB.out)
                  go_wp2_with (first | (go_at_call 14; refine (may_ref pa na ca c _ (HP.out.below BB.out)).mono ?_; rintro e wy2 ⟨rfl, rfl⟩; rw [HC1.out]) | (go_at_call 25; refine (HCR.out _ (HV.out.below BB.out) (HP.out.below BB.out)).mono ?_; rintro e wy2 ⟨pr, cr, rfl, hnr, _, hb⟩; have HNR := hide hnr; replace BB := hide (bel_next BB.out hb); (try replace HRK := hide (HRK.out.below hb)); (try replace HNP := hide (HNP.out.below hb)); (try replace HNX := hide (HNX.out.below hb)); (try replace HNW := hide (HNW.out.below hb)); clear hb; clear hnr) | (go_at_call 16; refine (SameS_ref px nX cx X pr nX cr X _ HNX.out HNR.out).mono ?_; rintro e wy2 ⟨rfl, hb⟩; rw [decide_eq_true (rfl : X = X)]; replace BB := hide (bel_next BB.out hb); (try replace HRK := hide (HRK.out.below hb)); (try replace HNP := hide (HNP.out.below hb)); (try replace HNX := hide (HNX.out.below hb)); (try replace HNW := hide (HNW.out.below hb)); clear hb) | (go_at_call 8; refine (awake9 _).mono ?_; rintro e wz ⟨rfl, hb⟩))
                  go_ret
                  exact ⟨rfl, bel_next BB.out hb⟩
            · go_upto_region 8 with (first | (go_at_call 19; refine (HKY.out _ (HV.out.below BB.out)).mono ?_; rintro e wy ⟨pk, ck, rfl, hrs, _, hb⟩; have HRKx := hide hrs; replace BB := hide (bel_next BB.out hb); (try replace HNP := hide (HNP.out.below hb)); (try replace HNX := hide (HNX.out.below hb)); (try replace HNW := hide (HNW.out.below hb)); clear hb; have HRK := HRKx; clear HRKx hrs) | (go_at_call 20; refine (HPY.out _ (HV.out.below BB.out)).mono ?_; rintro e wy ⟨pp, cp, rfl, hnp, _, hb⟩; have HNPx := hide hnp; replace BB := hide (bel_next BB.out hb); (try replace HRK := hide (HRK.out.below hb)); (try replace HNX := hide (HNX.out.below hb)); (try replace HNW := hide (HNW.out.below hb)); clear hb; have HNP := HNPx; clear HNPx hnp) | (go_at_call 21; refine (HCL.out _ (HV.out.below BB.out) (HP.out.below BB.out)).mono ?_; rintro e wy ⟨px, cx, rfl, hnx, _, hb⟩; have HNXx := hide hnx; replace BB := hide (bel_next BB.out hb); (try replace HRK := hide (HRK.out.below hb)); (try replace HNP := hide (HNP.out.below hb)); (try replace HNW := hide (HNW.out.below hb)); clear hb; have HNX := HNXx; clear HNXx hnx) | (go_at_call 12; refine (May9_ref a n cap s _ (HV.out.below BB.out) HFM.out).mono ?_; rintro e wy ⟨rfl, hb⟩; rw [HS1.out]; replace BB := hide (bel_next BB.out hb); (try replace HRK := hide (HRK.out.below hb)); (try replace HNP := hide (HNP.out.below hb)); (try replace HNX := hide (HNX.out.below hb)); (try replace HNW := hide (HNW.out.below hb)); clear hb) | (go_at_call 23; refine (HPR.out _ (HV.out.below BB.out)).mono ?_; rintro e wy ⟨pw, cw, rfl, hnw, _, hb⟩; have HNWx := hide hnw; replace BB := hide (bel_next BB.out hb); (try replace HRK := hide (HRK.out.below hb)); (try replace HNP := hide (HNP.out.below hb)); (try replace HNX := hide (HNX.out.below hb)); clear hb; have HNW := HNWx; clear HNWx hnw))
              go_wp2_with (go_at_call 16; refine (SameS_ref pp nP cp P pw nP cw P _ HNP.out HNW.out).mono ?_; rintro e wy ⟨rfl, hb⟩; rw [decide_eq_true (rfl : P = P)]; replace BB := hide (bel_next BB.out hb); (try replace HRK := hide (HRK.out.below hb)); (try replace HNP := hide (HNP.out.below hb)); (try replace HNX := hide (HNX.out.below hb)); (try replace HNW := hide (HNW.out.below hb)); clear hb; refine Stop.at ?_)
              unfold Stop
              go_wp2_with (first | (go_at_call 22; refine (HHA.out _ (HV.out.below BB.out)).mono ?_; rintro e wy ⟨rfl, hb⟩; replace BB := hide (bel_next BB.out hb); (try replace HRK := hide (HRK.out.below hb)); (try replace HNP := hide (HNP.out.below hb)); (try replace HNX := hide (HNX.out.below hb)); (try replace HNW := hide (HNW.out.below hb)); clear hb) | (go_at_call 24; refine (GetP_ref pw nP cw P o _ HNW.out).mono ?_; rintro e wy ⟨v1, rfl, ⟨p1, n1, c1, pd1, nd1, cd1, rfl, hd1, _⟩, hb⟩; have hbz := (has_len9 hd1.1).trans HBO.out; have hz1 : 0 < n1 := (by simp at hbz; omega); have hz2 : (0 : Int) < (n1 : Int) := (by omega); have hz3 : ¬ n1 = 0 := (by omega); replace BB := hide (bel_next BB.out hb); (try replace HRK := hide (HRK.out.below hb)); (try replace HNP := hide (HNP.out.below hb)); (try replace HNX := hide (HNX.out.below hb)); (try replace HNW := hide (HNW.out.below hb)); clear hb; clear hd1))
              have BW := BB
              have HRW := HRK
              have HNV := HNW
              have HNY := HNX
              clear BB HRK HNW HNP HNX
              go_loopw [12] (fun i wr => ∃ k : Nat, k ≤ nP ∧ i = .int .i64 k ∧ Hid (Below wy.heap.size wy wr)) (fun i _ => nP - (intOf i).toNat)
              case atStart => exact ⟨0, by omega, rfl, Below.refl _ _⟩
              case round =>
                obtain ⟨k0, hk, rfl, HB⟩ := hrel
                by_cases hlt : k0 < nP
                · obtain ⟨b, off, rfl⟩ := HNV.out.addr (by omega)
                  obtain ⟨k, pl, nl, cl, pd, nd, cd, ll, mm, hx, c0, c1, c2, _, _, _, _⟩ := (HNV.out.below HB.out).at k0 hlt
                  obtain ⟨b', off', rfl, hcs⟩ : ∃ b off, pk = some ⟨b, off, none⟩ ∧ ∀ i x, (P.map (·.1))[i]? = some x → ∀ j v, (encS x)[j]? = some v → wr.cell? ⟨b, off + i * 1 + j, none⟩ = some v := by
                    rcases (HRW.out.below HB.out).2.2 with h | h
                    · omega
                    · exact h
                  have d0 : wr.cell? ⟨b', off' + k0, none⟩ = some (.string k) := by
                    have := hcs k0 k (by rw [List.getElem?_map, hx]; rfl) 0 _ rfl
                    simpa using this
                  have hk0 : (0 : Int) ≤ (k0 : Int) := by omega
                  have hk1 : (k0 : Int) < (nP : Int) := by omega
                  have hkk : (k.toList == k.toList) = true := by rw [eqK, decide_eq_true rfl]
                  clear hx hcs
                  go_upto_region 13 with fail
                  refine wp_region_held_drew (S := fun W => Below wr.heap.size wr W) (by kernel_rfl) ((Below.refl _ wr).drew) (fun hS0 => ?_)
                  refine takeInH 0 97 ?v75 rfl rfl (by kernel_rfl) (by kernel_rfl) (by kernel_rfl) (fun _ _ _ h => h) (by kernel_rfl) hS0 ?hy75 ?_
                  case hy75 => (intro W hW; clear hW; go_simp; try rfl)
                  simp only [Act.put, List.setIfInBounds_toArray, List.set_cons_zero, List.set_cons_succ]
                  refine takeInH 1 98 ?v76 rfl rfl (by kernel_rfl) (by kernel_rfl) (by kernel_rfl) (fun _ _ _ h => h) (by kernel_rfl) hS0 ?hy76 ?_
                  case hy76 => (intro W hW; clear hW; go_simp; try rfl)
                  simp only [Act.put, List.setIfInBounds_toArray, List.set_cons_zero, List.set_cons_succ]
                  refine takeInH 2 99 ?v77 rfl rfl (by kernel_rfl) (by kernel_rfl) (by kernel_rfl) (fun _ _ _ h => h) (by kernel_rfl) hS0 ?hy77 ?_
                  case hy77 => (intro W hW; clear hW; go_simp; try rfl)
                  simp only [Act.put, List.setIfInBounds_toArray, List.set_cons_zero, List.set_cons_succ]
                  refine takeInH 3 100 ?v78 rfl rfl (by kernel_rfl) (by kernel_rfl) (by kernel_rfl) (fun _ _ _ h => h) (by kernel_rfl) hS0 ?hy78 ?_
                  case hy78 => (intro W hW; have e0 := bcell hW c0; have e1 := bcell hW d0; clear hW; go_simp; try rfl)
                  simp only [Act.put, List.setIfInBounds_toArray, List.set_cons_zero, List.set_cons_succ]
                  refine takeInH 4 101 ?v79 rfl rfl (by kernel_rfl) (by kernel_rfl) (by kernel_rfl) (fun _ _ _ h => h) (by kernel_rfl) hS0 ?hy79 ?_
                  case hy79 => (intro W hW; clear hW; go_simp; try rfl)
                  simp only [Act.put, List.setIfInBounds_toArray, List.set_cons_zero, List.set_cons_succ]
                  refine takeInH 5 102 ?v80 rfl rfl (by kernel_rfl) (by kernel_rfl) (by kernel_rfl) (fun _ _ _ h => h) (by kernel_rfl) hS0 ?hy80 ?_
                  case hy80 => (intro W hW; clear hW; go_simp; try rfl)
                  simp only [Act.put, List.setIfInBounds_toArray, List.set_cons_zero, List.set_cons_succ]
                  refine takeInH 6 103 ?v81 rfl rfl (by kernel_rfl) (by kernel_rfl) (by kernel_rfl) (fun _ _ _ h => h) (by kernel_rfl) hS0 ?hy81 ?_
                  case hy81 => (intro W hW; clear hW; go_simp; try rfl)
                  simp only [Act.put, List.setIfInBounds_toArray, List.set_cons_zero, List.set_cons_succ]
                  refine takeInH 7 104 ?v82 rfl rfl (by kernel_rfl) (by kernel_rfl) (by kernel_rfl) (fun _ _ _ h => h) (by kernel_rfl) hS0 ?hy82 ?_
                  case hy82 => (intro W hW; clear hW; go_simp; try rfl)
                  simp only [Act.put, List.setIfInBounds_toArray, List.set_cons_zero, List.set_cons_succ]
                  refine takeInH 8 105 ?v83 rfl rfl (by kernel_rfl) (by kernel_rfl) (by kernel_rfl) (fun _ _ _ h => h) (by kernel_rfl) hS0 ?hy83 ?_
                  case hy83 => (intro W hW; have e0 := bcell hW c0; have e1 := bcell hW d0; clear hW; go_simp; try rfl)
                  simp only [Act.put, List.setIfInBounds_toArray, List.set_cons_zero, List.set_cons_succ]
                  refine takeInH 9 106 ?v84 rfl rfl (by kernel_rfl) (by kernel_rfl) (by kernel_rfl) (fun _ _ _ h => h) (by kernel_rfl) hS0 ?hy84 ?_
                  case hy84 => (intro W hW; clear hW; go_simp; try rfl)
                  simp only [Act.put, List.setIfInBounds_toArray, List.set_cons_zero, List.set_cons_succ]
                  refine wpAnyH_done (by kernel_rfl) ?_ _
                  go_wp2
                  go_roundw
                  case rel => exact ⟨k0 + 1, by omega, by go_num, (show Hid _ from bel_next HB.out hS0)⟩
                  case measure => simp [intOf]; omega
                · obtain rfl : k0 = nP := by omega
                  have BB := hide (bel_next BW.out HB.out)
                  have HNX := hide (HNY.out.below HB.out)
                  go_wp2_with (first | (go_at_call 14; refine (may_ref pa na ca c _ (HP.out.below BB.out)).mono ?_; rintro e wy2 ⟨rfl, rfl⟩; rw [HC1.out]) | (go_at_call 25; refine (HCR.out _ (HV.out.below BB.out) (HP.out.below BB.out)).mono ?_; rintro e wy2 ⟨pr, cr, rfl, hnr, _, hb⟩; have HNR := hide hnr; replace BB := hide (bel_next BB.out hb); (try replace HRK := hide (HRK.out.below hb)); (try replace HNP := hide (HNP.out.below hb)); (try replace HNX := hide (HNX.out.below hb)); (try replace HNW := hide (HNW.out.below hb)); clear hb; clear hnr) | (go_at_call 16; refine (SameS_ref px nX cx X pr nX cr X _ HNX.out HNR.out).mono ?_; rintro e wy2 ⟨rfl, hb⟩; rw [decide_eq_true (rfl : X = X)]; replace BB := hide (bel_next BB.out hb); (try replace HRK := hide (HRK.out.below hb)); (try replace HNP := hide (HNP.out.below hb)); (try replace HNX := hide (HNX.out.below hb)); (try replace HNW := hide (HNW.out.below hb)); clear hb) | (go_at_call 8; refine (awake9 _).mono ?_; rintro e wz ⟨rfl, hb⟩))
                  go_ret
                  exact ⟨rfl, bel_next BB.out hb⟩
      · go_wp2_with (go_at_call 8; refine (awake9 _).mono ?_; rintro e wz ⟨rfl, hb⟩)
        go_ret
        exact ⟨rfl, bel_next BB.out hb⟩
    · go_wp2_with (go_at_call 8; refine (awake9 _).mono ?_; rintro e wz ⟨rfl, hb⟩)
      go_ret
      exact ⟨rfl, bel_next BB.out hb⟩

/-! ### The row's step -/
set_option maxRecDepth 100000 in
theorem lifted (os : Os) (started : os.Started) (H : Type) (enc : TypeId × Value → H) :
    ReturnsInHanded {} Try.checked os 4 .any (Rows.rwsetTellsSpec.pre6 enc Try.prog Try.f4 Rows.rwsetTellsRow.domain false) (Rows.rwsetTellsSpec.post enc Try.prog Try.f4 false true false false) := by
  refine returnsInHanded_of_change_sized (C := Try.checked) own started (by kernel_rfl) Try.func4
    (ChangeSpec.witness6 (enc := enc) (C := Try.checked) false ⟨#[], #[.slice none 0 0, .string ⟨#[]⟩, .slice none 0 0], []⟩ 8 (by kernel_rfl) (by kernel_rfl) (by kernel_rfl) (by kernel_rfl)) ?_
  intro W base args ds gs before hval0 hW hcnd hz0 _
  have hval : ∀ (j : Nat) t v, Try.f4.params[j]? = some t → args[j]? = some v → Value.okWide Try.prog W .any base t v := hval0
  have hz : (DataW.weightsEach Try.prog (Try.f4.params.toList ++ Rows.rwsetTellsSpec.plain.varTypes Try.prog) (ds ++ gs)).all (· ≤ reachBytes) = true := hz0
  have hW' := hW
  obtain ⟨p, q, hA0, hV, rfl, hfz, hnd⟩ := hW
  have hA : DataW.TrodAll enc Try.prog W 0 (fun _ => true) true Try.f4.params.toList args.toList ds p := hA0
  rw [Try.params4] at hA hval hz
  obtain ⟨v0, vs0, d0, ds0, p0, q0, hargs, rfl, rfl, h0, r0⟩ := trodAll_cons hA
  obtain ⟨v1, vs1, d1, ds1, p1, q1, rfl, rfl, rfl, h1, r1⟩ := trodAll_cons r0
  obtain ⟨v2, vs2, d2, ds2, p2, q2, rfl, rfl, rfl, h2, r2⟩ := trodAll_cons r1
  obtain ⟨rfl, rfl, rfl⟩ := trodAll_nil r2
  obtain rfl : args = #[v0, v1, v2] := by cases args; simp_all
  obtain ⟨rfl, rfl⟩ := trodVars_none hV
  have k0 := h0
  have lt0 : ∀ x ∈ p0, x.block < W.heap.size := by obtain ⟨m, hm⟩ := k0; exact DataW.trod_lt m _ _ _ hm
  have w0 : InNs W v0 := in_ents (hval 0 22 v0 rfl rfl) h0 (fun n hn => by have := List.all_eq_true.1 hz n (DataW.weights_mem_each (j := 0) (t := 22) rfl rfl n hn); simpa using this)
  have k1 := h1
  have lt1 : ∀ x ∈ p1, x.block < W.heap.size := by obtain ⟨m, hm⟩ := k1; exact DataW.trod_lt m _ _ _ hm
  have w1 : InS W v1 := in_str8 (hval 1 9 v1 rfl rfl) h1 (fun n hn => by have := List.all_eq_true.1 hz n (DataW.weights_mem_each (j := 1) (t := 9) rfl rfl n hn); simpa using this)
  have k2 := h2
  have lt2 : ∀ x ∈ p2, x.block < W.heap.size := by obtain ⟨m, hm⟩ := k2; exact DataW.trod_lt m _ _ _ hm
  have w2 : InN W v2 := in_nums (hval 2 26 v2 rfl rfl) h2 (fun n hn => by have := List.all_eq_true.1 hz n (DataW.weights_mem_each (j := 2) (t := 26) rfl rfl n hn); simpa using this)
  clear hA0 hval0 hz0
  refine (walk v0 v1 v2 W w0 w1 w2).mono fun e W' ⟨he, bel⟩ => ?_
  subst he
  exact ⟨_, rfl, _, _, _, [], _, [], hW', trodAll_mk1 (shut_bool Try.underlying4 _), (trodAll_cons_mk (Below.trod laidOut (by kernel_rfl) (of_decide_eq_true (by kernel_rfl)) k0 bel lt0) (trodAll_cons_mk (Below.trod laidOut (by kernel_rfl) (of_decide_eq_true (by kernel_rfl)) k1 bel lt1) (trodAll_cons_mk (Below.trod laidOut (by kernel_rfl) (of_decide_eq_true (by kernel_rfl)) k2 bel lt2) trodAll_mk0))), rfl, bel.frame _, fun h => by cases h⟩

theorem over : Rows.rwsetTellsRow.holds Try.pinned (OpenSpec.ofChange Rows.rwsetTellsSpec) :=
  OpenClaim.holds_of_wide 4 Try.f4 rfl rfl rfl rfl rfl rfl rfl ⟨rfl, rfl, rfl, rfl, rfl⟩ rfl rfl rfl rfl rfl (by kernel_rfl) Try.func4 (by kernel_rfl)
    (of_decide_eq_true (by kernel_rfl)) (by unfold Func.isWrapper; first | (rw [if_pos (by decide +kernel)]; kernel_rfl) | (rw [if_neg (by decide +kernel)]; exact ⟨rfl, rfl⟩))
    (fun os started H enc _ => lifted os started H enc)
end Go.Proofs.Ytiodlpoeifmldaa.rwsetTells
namespace Go.Proofs.Ytiodlpoeifmldaa
theorem rwsetTells_holds : Rows.RwsetTellsSaid := rwsetTells.over
end Go.Proofs.Ytiodlpoeifmldaa
