/- Which keys any set has, and whether two are alike, is as the document says. -/
import Derived.Test.YtoogahfmjgajpaaRows
import Derived.WalkKit
import Derived.ProofKit
import Derived.OpenShut
import Derived.ShutString
import Derived.ChangeOld
import Derived.Below
import Derived.SizedLaws
import Derived.Test.YtoogahfmjgajpaaC2
import Derived.Test.YtoogahfmjgajpaaB1
import Derived.Test.YtoogahfmjgajpaaB4
import Derived.Test.YtoogahfmjgajpaaB5
namespace Go.Proofs.Ytoogahfmjgajpaa.awsetTells
open Go.ChangeShapes Go.WideShapes Go.ChangeAt Go.RowKit
set_option linter.unusedVariables false

theorem own : ownKnob Try.prog.godebug = none := by kernel_rfl
theorem laidOut : laidOutB Try.prog = true := by kernel_rfl

theorem has_len {l : List Dot} {n : Nat} (h : l.length = n) : decide ((0 : Int) < (n : Int)) = decide (l ≠ []) := by
  subst h
  rw [Bool.eq_iff_iff, decide_eq_true_iff, decide_eq_true_iff]
  rcases l with _ | ⟨x, l⟩
  · simp
  · simp
set_option maxRecDepth 4000 in
set_option maxHeartbeats 8000000 in
theorem walk (v0 : Value) (v1 : Value) (v2 : Value) (w : World) (w0 : InNs w v0) (w1 : InNs w v1) (w2 : InS w v2) :
    Calls Try.prog 4 #[v0, v1, v2] w fun e w' => e = .returned (.bool true) ∧ Below w.heap.size w w' := by
  obtain ⟨a, n, cap, s, rfl, hA, hcp⟩ := w0
  obtain ⟨a', n', cap', t, rfl, hA', hcp'⟩ := w1
  obtain ⟨o, rfl⟩ := w2
  have HV := hide hA
  have HT := hide hA'
  have HLEN := hide hA.len
  have BB : Hid (Below w.heap.size w w) := Below.refl _ _
  have hfd := fieldL
  clear hA hA' hcp hcp'
  go_enter Try.func4, Try.ntmps4
  go_wp2_with (go_at_call 7; refine (light8 a n cap s _ HV.out).mono ?_; rintro e w1 ⟨bl, rfl, hl, rfl⟩; refine Stop.at ?_)
  unfold Stop
  cases bl
  · clear hl
    go_wp2_with (go_at_call 8; refine (awake8 _).mono ?_; rintro e wz ⟨rfl, hb⟩)
    go_ret
    exact ⟨rfl, hb⟩
  · obtain ⟨hn30, hfew⟩ := hl rfl
    have HFW : Hid (∀ x ∈ s, x.2.1.length ≤ 100000) := fun x hx => Nat.le_trans (hfew x hx).2.1 (by decide)
    clear hl hfew
    go_wp2_with (go_at_call 7; refine (light8 a' n' cap' t _ HT.out).mono ?_; rintro e w1 ⟨bm, rfl, _, rfl⟩; refine Stop.at ?_)
    unfold Stop
    cases bm
    · go_wp2_with (go_at_call 8; refine (awake8 _).mono ?_; rintro e wz ⟨rfl, hb⟩)
      go_ret
      exact ⟨rfl, hb⟩
    · by_cases h1 : (o.size : Int) ≤ 100
      · obtain ⟨be, hbe⟩ : ∃ b, decide (s = t) = b := ⟨_, rfl⟩
        have HSP : Hid (∀ W, NSS W a n s → NSS W a' n' t → Calls Try.prog 20 #[.slice a n cap, .slice a' n' cap'] W fun e w' => e = .returned (.bool be) ∧ Below W.heap.size W w') := fun W g1 g2 => by rw [← hbe]; exact SameN_any a n cap s a' n' cap' t W g1 g2
        have HSD : Hid (∀ W, NSS W a n s → NSS W a' n' t → Calls Try.prog 16 #[.slice a n cap, .slice a' n' cap'] W fun e w' => e = .returned (.bool be) ∧ Below W.heap.size W w') := fun W g1 g2 => by rw [← hbe]; exact SameS_ref a n cap s a' n' cap' t W g1 g2
        clear hbe
        rcases hs : mayS s with _ | _
        · have HS1 := hide hs
          have HKY : Hid (∀ W, NSS W a n s → Calls Try.prog 19 #[.slice a n cap] W fun e w' => (∃ p cp, e = .returned (.slice p 0 cp) ∧ RS encS 1 w' p 0 [] ∧ CP p 0 cp) ∧ Below W.heap.size W w') := fun W g => by
            have q := Keys_any a n cap s W g
            rw [hs] at q
            exact q
          have HHA : Hid (∀ W, NSS W a n s → Calls Try.prog 21 #[.slice a n cap, .string o] W fun e w' => e = .returned (.bool false) ∧ Below W.heap.size W w') := fun W g => by
            have q := Has_any a n cap s o W g
            rw [hs, Bool.false_and] at q
            exact q
          clear hs
          cases be
          all_goals (go_wp2_with (first | (go_at_call 19; refine (HKY.out _ (HV.out.below BB.out)).mono ?_; rintro e wy ⟨⟨pk, ck, rfl, hrs, _⟩, hb⟩; have HRSx := hide hrs; replace BB := hide (bel_next BB.out hb); (try replace HRS := hide (HRS.out.below hb)); clear hb; have HRS := HRSx; clear HRSx hrs) | (go_at_call 20; refine (HSP.out _ (HV.out.below BB.out) (HT.out.below BB.out)).mono ?_; rintro e wy ⟨rfl, hb⟩; replace BB := hide (bel_next BB.out hb); (try replace HRS := hide (HRS.out.below hb)); clear hb) | (go_at_call 16; refine (HSD.out _ (HV.out.below BB.out) (HT.out.below BB.out)).mono ?_; rintro e wy ⟨rfl, hb⟩; replace BB := hide (bel_next BB.out hb); (try replace HRS := hide (HRS.out.below hb)); clear hb) | (go_at_call 11; refine (MayS_ref a n cap s _ (HV.out.below BB.out) HFW.out).mono ?_; rintro e wy ⟨rfl, hb⟩; rw [HS1.out]; replace BB := hide (bel_next BB.out hb); (try replace HRS := hide (HRS.out.below hb)); clear hb) | (go_at_call 21; refine (HHA.out _ (HV.out.below BB.out)).mono ?_; rintro e wy ⟨rfl, hb⟩; replace BB := hide (bel_next BB.out hb); (try replace HRS := hide (HRS.out.below hb)); clear hb) | (go_at_call 8; refine (awake8 _).mono ?_; rintro e wz ⟨rfl, hb⟩)))
          all_goals (go_ret; exact ⟨rfl, bel_next BB.out hb⟩)
        · have HS1 := hide hs
          have HKY : Hid (∀ W, NSS W a n s → Calls Try.prog 19 #[.slice a n cap] W fun e w' => (∃ p cp, e = .returned (.slice p n cp) ∧ RS encS 1 w' p n (s.map (·.1)) ∧ CP p n cp) ∧ Below W.heap.size W w') := fun W g => by
            have q := Keys_any a n cap s W g
            rw [hs] at q
            exact q
          have HHA : Hid (∀ W, NSS W a n s → Calls Try.prog 21 #[.slice a n cap, .string o] W fun e w' => e = .returned (.bool (decide (getS s o ≠ []))) ∧ Below W.heap.size W w') := fun W g => by
            have q := Has_any a n cap s o W g
            rw [hs, Bool.true_and] at q
            exact q
          obtain ⟨bo, hbo⟩ : ∃ b, decide (getS s o ≠ []) = b := ⟨_, rfl⟩
          rw [hbo] at HHA
          have HBO := hide hbo
          clear hs hbo
          cases be
          · cases bo
            · go_wp2_with (first | (go_at_call 19; refine (HKY.out _ (HV.out.below BB.out)).mono ?_; rintro e wy ⟨⟨pk, ck, rfl, hrs, _⟩, hb⟩; have HRSx := hide hrs; replace BB := hide (bel_next BB.out hb); (try replace HRS := hide (HRS.out.below hb)); clear hb; have HRS := HRSx; clear HRSx hrs) | (go_at_call 20; refine (HSP.out _ (HV.out.below BB.out) (HT.out.below BB.out)).mono ?_; rintro e wy ⟨rfl, hb⟩; replace BB := hide (bel_next BB.out hb); (try replace HRS := hide (HRS.out.below hb)); clear hb) | (go_at_call 16; refine (HSD.out _ (HV.out.below BB.out) (HT.out.below BB.out)).mono ?_; rintro e wy ⟨rfl, hb⟩; replace BB := hide (bel_next BB.out hb); (try replace HRS := hide (HRS.out.below hb)); clear hb) | (go_at_call 11; refine (MayS_ref a n cap s _ (HV.out.below BB.out) HFW.out).mono ?_; rintro e wy ⟨rfl, hb⟩; rw [HS1.out]; replace BB := hide (bel_next BB.out hb); (try replace HRS := hide (HRS.out.below hb)); clear hb) | (go_at_call 21; refine (HHA.out _ (HV.out.below BB.out)).mono ?_; rintro e wy ⟨rfl, hb⟩; replace BB := hide (bel_next BB.out hb); (try replace HRS := hide (HRS.out.below hb)); clear hb) | (go_at_call 22; refine (GetS_ref a n cap s o _ (HV.out.below BB.out)).mono ?_; rintro e wy ⟨v1, rfl, ⟨p1, n1, c1, pd1, nd1, cd1, rfl, hd1, _⟩, hb⟩; have hbz := (has_len hd1.1).trans HBO.out; have hz1 : n1 = 0 := (by simp at hbz; omega); clear hbz; subst hz1; replace BB := hide (bel_next BB.out hb); (try replace HRS := hide (HRS.out.below hb)); clear hb; clear hd1))
              have BW := BB
              have HRW := HRS
              clear BB HRS
              go_loopw [8] (fun i wr => ∃ k : Nat, k ≤ n ∧ i = .int .i64 k ∧ Hid (Below wy.heap.size wy wr)) (fun i _ => n - (intOf i).toNat)
              case atStart => exact ⟨0, by omega, rfl, Below.refl _ _⟩
              case round =>
                obtain ⟨k0, hk, rfl, HB⟩ := hrel
                by_cases hlt : k0 < n
                · obtain ⟨b, off, rfl⟩ := HV.out.addr (by omega)
                  obtain ⟨k, pl, nl, cl, pd, nd, cd, ll, mm, hx, c0, c1, c2, _, _, _, _⟩ := ((HV.out.below BW.out).below HB.out).at k0 hlt
                  obtain ⟨b', off', rfl, hcs⟩ : ∃ b off, pk = some ⟨b, off, none⟩ ∧ ∀ i x, (s.map (·.1))[i]? = some x → ∀ j v, (encS x)[j]? = some v → wr.cell? ⟨b, off + i * 1 + j, none⟩ = some v := by
                    rcases (HRW.out.below HB.out).2.2 with h | h
                    · omega
                    · exact h
                  have d0 : wr.cell? ⟨b', off' + k0, none⟩ = some (.string k) := by
                    have := hcs k0 k (by rw [List.getElem?_map, hx]; rfl) 0 _ rfl
                    simpa using this
                  have hk0 : (0 : Int) ≤ (k0 : Int) := by omega
                  have hk1 : (k0 : Int) < (n : Int) := by omega
                  have hkk : (k.toList == k.toList) = true := by rw [eqK, decide_eq_true rfl]
                  clear hx hcs
                  go_upto_region 13 with fail
                  refine wp_region_held_drew (S := fun W => Below wr.heap.size wr W) (by kernel_rfl) ((Below.refl _ wr).drew) (fun hS0 => ?_)
                  refine takeInH 0 70 ?v11 rfl rfl (by kernel_rfl) (by kernel_rfl) (by kernel_rfl) (fun _ _ _ h => h) (by kernel_rfl) hS0 ?hy11 ?_
                  case hy11 => (intro W hW; clear hW; go_simp; try rfl)
                  simp only [Act.put, List.setIfInBounds_toArray, List.set_cons_zero, List.set_cons_succ]
                  refine takeInH 1 71 ?v12 rfl rfl (by kernel_rfl) (by kernel_rfl) (by kernel_rfl) (fun _ _ _ h => h) (by kernel_rfl) hS0 ?hy12 ?_
                  case hy12 => (intro W hW; clear hW; go_simp; try rfl)
                  simp only [Act.put, List.setIfInBounds_toArray, List.set_cons_zero, List.set_cons_succ]
                  refine takeInH 2 72 ?v13 rfl rfl (by kernel_rfl) (by kernel_rfl) (by kernel_rfl) (fun _ _ _ h => h) (by kernel_rfl) hS0 ?hy13 ?_
                  case hy13 => (intro W hW; clear hW; go_simp; try rfl)
                  simp only [Act.put, List.setIfInBounds_toArray, List.set_cons_zero, List.set_cons_succ]
                  refine takeInH 3 73 ?v14 rfl rfl (by kernel_rfl) (by kernel_rfl) (by kernel_rfl) (fun _ _ _ h => h) (by kernel_rfl) hS0 ?hy14 ?_
                  case hy14 => (intro W hW; have e0 := bcell hW c0; have e1 := bcell hW d0; clear hW; go_simp; try rfl)
                  simp only [Act.put, List.setIfInBounds_toArray, List.set_cons_zero, List.set_cons_succ]
                  refine takeInH 4 74 ?v15 rfl rfl (by kernel_rfl) (by kernel_rfl) (by kernel_rfl) (fun _ _ _ h => h) (by kernel_rfl) hS0 ?hy15 ?_
                  case hy15 => (intro W hW; clear hW; go_simp; try rfl)
                  simp only [Act.put, List.setIfInBounds_toArray, List.set_cons_zero, List.set_cons_succ]
                  refine takeInH 5 75 ?v16 rfl rfl (by kernel_rfl) (by kernel_rfl) (by kernel_rfl) (fun _ _ _ h => h) (by kernel_rfl) hS0 ?hy16 ?_
                  case hy16 => (intro W hW; clear hW; go_simp; try rfl)
                  simp only [Act.put, List.setIfInBounds_toArray, List.set_cons_zero, List.set_cons_succ]
                  refine takeInH 6 76 ?v17 rfl rfl (by kernel_rfl) (by kernel_rfl) (by kernel_rfl) (fun _ _ _ h => h) (by kernel_rfl) hS0 ?hy17 ?_
                  case hy17 => (intro W hW; clear hW; go_simp; try rfl)
                  simp only [Act.put, List.setIfInBounds_toArray, List.set_cons_zero, List.set_cons_succ]
                  refine takeInH 7 77 ?v18 rfl rfl (by kernel_rfl) (by kernel_rfl) (by kernel_rfl) (fun _ _ _ h => h) (by kernel_rfl) hS0 ?hy18 ?_
                  case hy18 => (intro W hW; clear hW; go_simp; try rfl)
                  simp only [Act.put, List.setIfInBounds_toArray, List.set_cons_zero, List.set_cons_succ]
                  refine takeInH 8 78 ?v19 rfl rfl (by kernel_rfl) (by kernel_rfl) (by kernel_rfl) (fun _ _ _ h => h) (by kernel_rfl) hS0 ?hy19 ?_
                  case hy19 => (intro W hW; have e0 := bcell hW c0; have e1 := bcell hW d0; clear hW; go_simp; try rfl)
                  simp only [Act.put, List.setIfInBounds_toArray, List.set_cons_zero, List.set_cons_succ]
                  refine takeInH 9 79 ?v20 rfl rfl (by kernel_rfl) (by kernel_rfl) (by kernel_rfl) (fun _ _ _ h => h) (by kernel_rfl) hS0 ?hy20 ?_
                  case hy20 => (intro W hW; clear hW; go_simp; try rfl)
                  simp only [Act.put, List.setIfInBounds_toArray, List.set_cons_zero, List.set_cons_succ]
                  refine wpAnyH_done (by kernel_rfl) ?_ _
                  go_wp2
                  go_roundw
                  case rel => exact ⟨k0 + 1, by omega, by go_num, (show Hid _ from bel_next HB.out hS0)⟩
                  case measure => simp [intOf]; omega
                · obtain rfl : k0 = n := by omega
                  go_wp2_with (go_at_call 8; refine (awake8 _).mono ?_; rintro e wz ⟨rfl, hb⟩)
                  go_ret
                  exact ⟨rfl, bel_next BW.out (bel_next HB.out hb)⟩
            · go_wp2_with (first | (go_at_call 19; refine (HKY.out _ (HV.out.below BB.out)).mono ?_; rintro e wy ⟨⟨pk, ck, rfl, hrs, _⟩, hb⟩; have HRSx := hide hrs; replace BB := hide (bel_next BB.out hb); (try replace HRS := hide (HRS.out.below hb)); clear hb; have HRS := HRSx; clear HRSx hrs) | (go_at_call 20; refine (HSP.out _ (HV.out.below BB.out) (HT.out.below BB.out)).mono ?_; rintro e wy ⟨rfl, hb⟩; replace BB := hide (bel_next BB.out hb); (try replace HRS := hide (HRS.out.below hb)); clear hb) | (go_at_call 16; refine (HSD.out _ (HV.out.below BB.out) (HT.out.below BB.out)).mono ?_; rintro e wy ⟨rfl, hb⟩; replace BB := hide (bel_next BB.out hb); (try replace HRS := hide (HRS.out.below hb)); clear hb) | (go_at_call 11; refine (MayS_ref a n cap s _ (HV.out.below BB.out) HFW.out).mono ?_; rintro e wy ⟨rfl, hb⟩; rw [HS1.out]; replace BB := hide (bel_next BB.out hb); (try replace HRS := hide (HRS.out.below hb)); clear hb) | (go_at_call 21; refine (HHA.out _ (HV.out.below BB.out)).mono ?_; rintro e wy ⟨rfl, hb⟩; replace BB := hide (bel_next BB.out hb); (try replace HRS := hide (HRS.out.below hb)); clear hb) | (go_at_call 22; refine (GetS_ref a n cap s o _ (HV.out.below BB.out)).mono ?_; rintro e wy ⟨v1, rfl, ⟨p1, n1, c1, pd1, nd1, cd1, rfl, hd1, _⟩, hb⟩; have hbz := (has_len hd1.1).trans HBO.out; have hz1 : 0 < n1 := (by simp at hbz; omega); have hz2 : (0 : Int) < (n1 : Int) := (by omega); have hz3 : ¬ n1 = 0 := (by omega); replace BB := hide (bel_next BB.out hb); (try replace HRS := hide (HRS.out.below hb)); clear hb; clear hd1))
              have BW := BB
              have HRW := HRS
              clear BB HRS
              go_loopw [8] (fun i wr => ∃ k : Nat, k ≤ n ∧ i = .int .i64 k ∧ Hid (Below wy.heap.size wy wr)) (fun i _ => n - (intOf i).toNat)
              case atStart => exact ⟨0, by omega, rfl, Below.refl _ _⟩
              case round =>
                obtain ⟨k0, hk, rfl, HB⟩ := hrel
                by_cases hlt : k0 < n
                · obtain ⟨b, off, rfl⟩ := HV.out.addr (by omega)
                  obtain ⟨k, pl, nl, cl, pd, nd, cd, ll, mm, hx, c0, c1, c2, _, _, _, _⟩ := ((HV.out.below BW.out).below HB.out).at k0 hlt
                  obtain ⟨b', off', rfl, hcs⟩ : ∃ b off, pk = some ⟨b, off, none⟩ ∧ ∀ i x, (s.map (·.1))[i]? = some x → ∀ j v, (encS x)[j]? = some v → wr.cell? ⟨b, off + i * 1 + j, none⟩ = some v := by
                    rcases (HRW.out.below HB.out).2.2 with h | h
                    · omega
                    · exact h
                  have d0 : wr.cell? ⟨b', off' + k0, none⟩ = some (.string k) := by
                    have := hcs k0 k (by rw [List.getElem?_map, hx]; rfl) 0 _ rfl
                    simpa using this
                  have hk0 : (0 : Int) ≤ (k0 : Int) := by omega
                  have hk1 : (k0 : Int) < (n : Int) := by omega
                  have hkk : (k.toList == k.toList) = true := by rw [eqK, decide_eq_true rfl]
                  clear hx hcs
                  go_upto_region 13 with fail
                  refine wp_region_held_drew (S := fun W => Below wr.heap.size wr W) (by kernel_rfl) ((Below.refl _ wr).drew) (fun hS0 => ?_)
                  refine takeInH 0 70 ?v21 rfl rfl (by kernel_rfl) (by kernel_rfl) (by kernel_rfl) (fun _ _ _ h => h) (by kernel_rfl) hS0 ?hy21 ?_
                  case hy21 => (intro W hW; clear hW; go_simp; try rfl)
                  simp only [Act.put, List.setIfInBounds_toArray, List.set_cons_zero, List.set_cons_succ]
                  refine takeInH 1 71 ?v22 rfl rfl (by kernel_rfl) (by kernel_rfl) (by kernel_rfl) (fun _ _ _ h => h) (by kernel_rfl) hS0 ?hy22 ?_
                  case hy22 => (intro W hW; clear hW; go_simp; try rfl)
                  simp only [Act.put, List.setIfInBounds_toArray, List.set_cons_zero, List.set_cons_succ]
                  refine takeInH 2 72 ?v23 rfl rfl (by kernel_rfl) (by kernel_rfl) (by kernel_rfl) (fun _ _ _ h => h) (by kernel_rfl) hS0 ?hy23 ?_
                  case hy23 => (intro W hW; clear hW; go_simp; try rfl)
                  simp only [Act.put, List.setIfInBounds_toArray, List.set_cons_zero, List.set_cons_succ]
                  refine takeInH 3 73 ?v24 rfl rfl (by kernel_rfl) (by kernel_rfl) (by kernel_rfl) (fun _ _ _ h => h) (by kernel_rfl) hS0 ?hy24 ?_
                  case hy24 => (intro W hW; have e0 := bcell hW c0; have e1 := bcell hW d0; clear hW; go_simp; try rfl)
                  simp only [Act.put, List.setIfInBounds_toArray, List.set_cons_zero, List.set_cons_succ]
                  refine takeInH 4 74 ?v25 rfl rfl (by kernel_rfl) (by kernel_rfl) (by kernel_rfl) (fun _ _ _ h => h) (by kernel_rfl) hS0 ?hy25 ?_
                  case hy25 => (intro W hW; clear hW; go_simp; try rfl)
                  simp only [Act.put, List.setIfInBounds_toArray, List.set_cons_zero, List.set_cons_succ]
                  refine takeInH 5 75 ?v26 rfl rfl (by kernel_rfl) (by kernel_rfl) (by kernel_rfl) (fun _ _ _ h => h) (by kernel_rfl) hS0 ?hy26 ?_
                  case hy26 => (intro W hW; clear hW; go_simp; try rfl)
                  simp only [Act.put, List.setIfInBounds_toArray, List.set_cons_zero, List.set_cons_succ]
                  refine takeInH 6 76 ?v27 rfl rfl (by kernel_rfl) (by kernel_rfl) (by kernel_rfl) (fun _ _ _ h => h) (by kernel_rfl) hS0 ?hy27 ?_
                  case hy27 => (intro W hW; clear hW; go_simp; try rfl)
                  simp only [Act.put, List.setIfInBounds_toArray, List.set_cons_zero, List.set_cons_succ]
                  refine takeInH 7 77 ?v28 rfl rfl (by kernel_rfl) (by kernel_rfl) (by kernel_rfl) (fun _ _ _ h => h) (by kernel_rfl) hS0 ?hy28 ?_
                  case hy28 => (intro W hW; clear hW; go_simp; try rfl)
                  simp only [Act.put, List.setIfInBounds_toArray, List.set_cons_zero, List.set_cons_succ]
                  refine takeInH 8 78 ?v29 rfl rfl (by kernel_rfl) (by kernel_rfl) (by kernel_rfl) (fun _ _ _ h => h) (by kernel_rfl) hS0 ?hy29 ?_
                  case hy29 => (intro W hW; have e0 := bcell hW c0; have e1 := bcell hW d0; clear hW; go_simp; try rfl)
                  simp only [Act.put, List.setIfInBounds_toArray, List.set_cons_zero, List.set_cons_succ]
                  refine takeInH 9 79 ?v30 rfl rfl (by kernel_rfl) (by kernel_rfl) (by kernel_rfl) (fun _ _ _ h => h) (by kernel_rfl) hS0 ?hy30 ?_
                  case hy30 => (intro W hW; clear hW; go_simp; try rfl)
                  simp only [Act.put, List.setIfInBounds_toArray, List.set_cons_zero, List.set_cons_succ]
                  refine wpAnyH_done (by kernel_rfl) ?_ _
                  go_wp2
                  go_roundw
                  case rel => exact ⟨k0 + 1, by omega, by go_num, (show Hid _ from bel_next HB.out hS0)⟩
                  case measure => simp [intOf]; omega
                · obtain rfl : k0 = n := by omega
                  go_wp2_with (go_at_call 8; refine (awake8 _).mono ?_; rintro e wz ⟨rfl, hb⟩)
                  go_ret
                  exact ⟨rfl, bel_next BW.out (bel_next HB.out hb)⟩
          · cases bo
            · go_wp2_with (first | (go_at_call 19; refine (HKY.out _ (HV.out.below BB.out)).mono ?_; rintro e wy ⟨⟨pk, ck, rfl, hrs, _⟩, hb⟩; have HRSx := hide hrs; replace BB := hide (bel_next BB.out hb); (try replace HRS := hide (HRS.out.below hb)); clear hb; have HRS := HRSx; clear HRSx hrs) | (go_at_call 20; refine (HSP.out _ (HV.out.below BB.out) (HT.out.below BB.out)).mono ?_; rintro e wy ⟨rfl, hb⟩; replace BB := hide (bel_next BB.out hb); (try replace HRS := hide (HRS.out.below hb)); clear hb) | (go_at_call 16; refine (HSD.out _ (HV.out.below BB.out) (HT.out.below BB.out)).mono ?_; rintro e wy ⟨rfl, hb⟩; replace BB := hide (bel_next BB.out hb); (try replace HRS := hide (HRS.out.below hb)); clear hb) | (go_at_call 11; refine (MayS_ref a n cap s _ (HV.out.below BB.out) HFW.out).mono ?_; rintro e wy ⟨rfl, hb⟩; rw [HS1.out]; replace BB := hide (bel_next BB.out hb); (try replace HRS := hide (HRS.out.below hb)); clear hb) | (go_at_call 21; refine (HHA.out _ (HV.out.below BB.out)).mono ?_; rintro e wy ⟨rfl, hb⟩; replace BB := hide (bel_next BB.out hb); (try replace HRS := hide (HRS.out.below hb)); clear hb) | (go_at_call 22; refine (GetS_ref a n cap s o _ (HV.out.below BB.out)).mono ?_; rintro e wy ⟨v1, rfl, ⟨p1, n1, c1, pd1, nd1, cd1, rfl, hd1, _⟩, hb⟩; have hbz := (has_len hd1.1).trans HBO.out; have hz1 : n1 = 0 := (by simp at hbz; omega); clear hbz; subst hz1; replace BB := hide (bel_next BB.out hb); (try replace HRS := hide (HRS.out.below hb)); clear hb; clear hd1))
              have BW := BB
              have HRW := HRS
              clear BB HRS
              go_loopw [8] (fun i wr => ∃ k : Nat, k ≤ n ∧ i = .int .i64 k ∧ Hid (Below wy.heap.size wy wr)) (fun i _ => n - (intOf i).toNat)
              case atStart => exact ⟨0, by omega, rfl, Below.refl _ _⟩
              case round =>
                obtain ⟨k0, hk, rfl, HB⟩ := hrel
                by_cases hlt : k0 < n
                · obtain ⟨b, off, rfl⟩ := HV.out.addr (by omega)
                  obtain ⟨k, pl, nl, cl, pd, nd, cd, ll, mm, hx, c0, c1, c2, _, _, _, _⟩ := ((HV.out.below BW.out).below HB.out).at k0 hlt
                  obtain ⟨b', off', rfl, hcs⟩ : ∃ b off, pk = some ⟨b, off, none⟩ ∧ ∀ i x, (s.map (·.1))[i]? = some x → ∀ j v, (encS x)[j]? = some v → wr.cell? ⟨b, off + i * 1 + j, none⟩ = some v := by
                    rcases (HRW.out.below HB.out).2.2 with h | h
                    · omega
                    · exact h
                  have d0 : wr.cell? ⟨b', off' + k0, none⟩ = some (.string k) := by
                    have := hcs k0 k (by rw [List.getElem?_map, hx]; rfl) 0 _ rfl
                    simpa using this
                  have hk0 : (0 : Int) ≤ (k0 : Int) := by omega
                  have hk1 : (k0 : Int) < (n : Int) := by omega
                  have hkk : (k.toList == k.toList) = true := by rw [eqK, decide_eq_true rfl]
                  clear hx hcs
                  go_upto_region 13 with fail
                  refine wp_region_held_drew (S := fun W => Below wr.heap.size wr W) (by kernel_rfl) ((Below.refl _ wr).drew) (fun hS0 => ?_)
                  refine takeInH 0 70 ?v31 rfl rfl (by kernel_rfl) (by kernel_rfl) (by kernel_rfl) (fun _ _ _ h => h) (by kernel_rfl) hS0 ?hy31 ?_
                  case hy31 => (intro W hW; clear hW; go_simp; try rfl)
                  simp only [Act.put, List.setIfInBounds_toArray, List.set_cons_zero, List.set_cons_succ]
                  refine takeInH 1 71 ?v32 rfl rfl (by kernel_rfl) (by kernel_rfl) (by kernel_rfl) (fun _ _ _ h => h) (by kernel_rfl) hS0 ?hy32 ?_
                  case hy32 => (intro W hW; clear hW; go_simp; try rfl)
                  simp only [Act.put, List.setIfInBounds_toArray, List.set_cons_zero, List.set_cons_succ]
                  refine takeInH 2 72 ?v33 rfl rfl (by kernel_rfl) (by kernel_rfl) (by kernel_rfl) (fun _ _ _ h => h) (by kernel_rfl) hS0 ?hy33 ?_
                  case hy33 => (intro W hW; clear hW; go_simp; try rfl)
                  simp only [Act.put, List.setIfInBounds_toArray, List.set_cons_zero, List.set_cons_succ]
                  refine takeInH 3 73 ?v34 rfl rfl (by kernel_rfl) (by kernel_rfl) (by kernel_rfl) (fun _ _ _ h => h) (by kernel_rfl) hS0 ?hy34 ?_
                  case hy34 => (intro W hW; have e0 := bcell hW c0; have e1 := bcell hW d0; clear hW; go_simp; try rfl)
                  simp only [Act.put, List.setIfInBounds_toArray, List.set_cons_zero, List.set_cons_succ]
                  refine takeInH 4 74 ?v35 rfl rfl (by kernel_rfl) (by kernel_rfl) (by kernel_rfl) (fun _ _ _ h => h) (by kernel_rfl) hS0 ?hy35 ?_
                  case hy35 => (intro W hW; clear hW; go_simp; try rfl)
                  simp only [Act.put, List.setIfInBounds_toArray, List.set_cons_zero, List.set_cons_succ]
                  refine takeInH 5 75 ?v36 rfl rfl (by kernel_rfl) (by kernel_rfl) (by kernel_rfl) (fun _ _ _ h => h) (by kernel_rfl) hS0 ?hy36 ?_
                  case hy36 => (intro W hW; clear hW; go_simp; try rfl)
                  simp only [Act.put, List.setIfInBounds_toArray, List.set_cons_zero, List.set_cons_succ]
                  refine takeInH 6 76 ?v37 rfl rfl (by kernel_rfl) (by kernel_rfl) (by kernel_rfl) (fun _ _ _ h => h) (by kernel_rfl) hS0 ?hy37 ?_
                  case hy37 => (intro W hW; clear hW; go_simp; try rfl)
                  simp only [Act.put, List.setIfInBounds_toArray, List.set_cons_zero, List.set_cons_succ]
                  refine takeInH 7 77 ?v38 rfl rfl (by kernel_rfl) (by kernel_rfl) (by kernel_rfl) (fun _ _ _ h => h) (by kernel_rfl) hS0 ?hy38 ?_
                  case hy38 => (intro W hW; clear hW; go_simp; try rfl)
                  simp only [Act.put, List.setIfInBounds_toArray, List.set_cons_zero, List.set_cons_succ]
                  refine takeInH 8 78 ?v39 rfl rfl (by kernel_rfl) (by kernel_rfl) (by kernel_rfl) (fun _ _ _ h => h) (by kernel_rfl) hS0 ?hy39 ?_
                  case hy39 => (intro W hW; have e0 := bcell hW c0; have e1 := bcell hW d0; clear hW; go_simp; try rfl)
                  simp only [Act.put, List.setIfInBounds_toArray, List.set_cons_zero, List.set_cons_succ]
                  refine takeInH 9 79 ?v40 rfl rfl (by kernel_rfl) (by kernel_rfl) (by kernel_rfl) (fun _ _ _ h => h) (by kernel_rfl) hS0 ?hy40 ?_
                  case hy40 => (intro W hW; clear hW; go_simp; try rfl)
                  simp only [Act.put, List.setIfInBounds_toArray, List.set_cons_zero, List.set_cons_succ]
                  refine wpAnyH_done (by kernel_rfl) ?_ _
                  go_wp2
                  go_roundw
                  case rel => exact ⟨k0 + 1, by omega, by go_num, (show Hid _ from bel_next HB.out hS0)⟩
                  case measure => simp [intOf]; omega
                · obtain rfl : k0 = n := by omega
                  go_wp2_with (go_at_call 8; refine (awake8 _).mono ?_; rintro e wz ⟨rfl, hb⟩)
                  go_ret
                  exact ⟨rfl, bel_next BW.out (bel_next HB.out hb)⟩
            · go_wp2_with (first | (go_at_call 19; refine (HKY.out _ (HV.out.below BB.out)).mono ?_; rintro e wy ⟨⟨pk, ck, rfl, hrs, _⟩, hb⟩; have HRSx := hide hrs; replace BB := hide (bel_next BB.out hb); (try replace HRS := hide (HRS.out.below hb)); clear hb; have HRS := HRSx; clear HRSx hrs) | (go_at_call 20; refine (HSP.out _ (HV.out.below BB.out) (HT.out.below BB.out)).mono ?_; rintro e wy ⟨rfl, hb⟩; replace BB := hide (bel_next BB.out hb); (try replace HRS := hide (HRS.out.below hb)); clear hb) | (go_at_call 16; refine (HSD.out _ (HV.out.below BB.out) (HT.out.below BB.out)).mono ?_; rintro e wy ⟨rfl, hb⟩; replace BB := hide (bel_next BB.out hb); (try replace HRS := hide (HRS.out.below hb)); clear hb) | (go_at_call 11; refine (MayS_ref a n cap s _ (HV.out.below BB.out) HFW.out).mono ?_; rintro e wy ⟨rfl, hb⟩; rw [HS1.out]; replace BB := hide (bel_next BB.out hb); (try replace HRS := hide (HRS.out.below hb)); clear hb) | (go_at_call 21; refine (HHA.out _ (HV.out.below BB.out)).mono ?_; rintro e wy ⟨rfl, hb⟩; replace BB := hide (bel_next BB.out hb); (try replace HRS := hide (HRS.out.below hb)); clear hb) | (go_at_call 22; refine (GetS_ref a n cap s o _ (HV.out.below BB.out)).mono ?_; rintro e wy ⟨v1, rfl, ⟨p1, n1, c1, pd1, nd1, cd1, rfl, hd1, _⟩, hb⟩; have hbz := (has_len hd1.1).trans HBO.out; have hz1 : 0 < n1 := (by simp at hbz; omega); have hz2 : (0 : Int) < (n1 : Int) := (by omega); have hz3 : ¬ n1 = 0 := (by omega); replace BB := hide (bel_next BB.out hb); (try replace HRS := hide (HRS.out.below hb)); clear hb; clear hd1))
              have BW := BB
              have HRW := HRS
              clear BB HRS
              go_loopw [8] (fun i wr => ∃ k : Nat, k ≤ n ∧ i = .int .i64 k ∧ Hid (Below wy.heap.size wy wr)) (fun i _ => n - (intOf i).toNat)
              case atStart => exact ⟨0, by omega, rfl, Below.refl _ _⟩
              case round =>
                obtain ⟨k0, hk, rfl, HB⟩ := hrel
                by_cases hlt : k0 < n
                · obtain ⟨b, off, rfl⟩ := HV.out.addr (by omega)
                  obtain ⟨k, pl, nl, cl, pd, nd, cd, ll, mm, hx, c0, c1, c2, _, _, _, _⟩ := ((HV.out.below BW.out).below HB.out).at k0 hlt
                  obtain ⟨b', off', rfl, hcs⟩ : ∃ b off, pk = some ⟨b, off, none⟩ ∧ ∀ i x, (s.map (·.1))[i]? = some x → ∀ j v, (encS x)[j]? = some v → wr.cell? ⟨b, off + i * 1 + j, none⟩ = some v := by
                    rcases (HRW.out.below HB.out).2.2 with h | h
                    · omega
                    · exact h
                  have d0 : wr.cell? ⟨b', off' + k0, none⟩ = some (.string k) := by
                    have := hcs k0 k (by rw [List.getElem?_map, hx]; rfl) 0 _ rfl
                    simpa using this
                  have hk0 : (0 : Int) ≤ (k0 : Int) := by omega
                  have hk1 : (k0 : Int) < (n : Int) := by omega
                  have hkk : (k.toList == k.toList) = true := by rw [eqK, decide_eq_true rfl]
                  clear hx hcs
                  go_upto_region 13 with fail
                  refine wp_region_held_drew (S := fun W => Below wr.heap.size wr W) (by kernel_rfl) ((Below.refl _ wr).drew) (fun hS0 => ?_)
                  refine takeInH 0 70 ?v41 rfl rfl (by kernel_rfl) (by kernel_rfl) (by kernel_rfl) (fun _ _ _ h => h) (by kernel_rfl) hS0 ?hy41 ?_
                  case hy41 => (intro W hW; clear hW; go_simp; try rfl)
                  simp only [Act.put, List.setIfInBounds_toArray, List.set_cons_zero, List.set_cons_succ]
                  refine takeInH 1 71 ?v42 rfl rfl (by kernel_rfl) (by kernel_rfl) (by kernel_rfl) (fun _ _ _ h => h) (by kernel_rfl) hS0 ?hy42 ?_
                  case hy42 => (intro W hW; clear hW; go_simp; try rfl)
                  simp only [Act.put, List.setIfInBounds_toArray, List.set_cons_zero, List.set_cons_succ]
                  refine takeInH 2 72 ?v43 rfl rfl (by kernel_rfl) (by kernel_rfl) (by kernel_rfl) (fun _ _ _ h => h) (by kernel_rfl) hS0 ?hy43 ?_
                  case hy43 => (intro W hW; clear hW; go_simp; try rfl)
                  simp only [Act.put, List.setIfInBounds_toArray, List.set_cons_zero, List.set_cons_succ]
                  refine takeInH 3 73 ?v44 rfl rfl (by kernel_rfl) (by kernel_rfl) (by kernel_rfl) (fun _ _ _ h => h) (by kernel_rfl) hS0 ?hy44 ?_
                  case hy44 => (intro W hW; have e0 := bcell hW c0; have e1 := bcell hW d0; clear hW; go_simp; try rfl)
                  simp only [Act.put, List.setIfInBounds_toArray, List.set_cons_zero, List.set_cons_succ]
                  refine takeInH 4 74 ?v45 rfl rfl (by kernel_rfl) (by kernel_rfl) (by kernel_rfl) (fun _ _ _ h => h) (by kernel_rfl) hS0 ?hy45 ?_
                  case hy45 => (intro W hW; clear hW; go_simp; try rfl)
                  simp only [Act.put, List.setIfInBounds_toArray, List.set_cons_zero, List.set_cons_succ]
                  refine takeInH 5 75 ?v46 rfl rfl (by kernel_rfl) (by kernel_rfl) (by kernel_rfl) (fun _ _ _ h => h) (by kernel_rfl) hS0 ?hy46 ?_
                  case hy46 => (intro W hW; clear hW; go_simp; try rfl)
                  simp only [Act.put, List.setIfInBounds_toArray, List.set_cons_zero, List.set_cons_succ]
                  refine takeInH 6 76 ?v47 rfl rfl (by kernel_rfl) (by kernel_rfl) (by kernel_rfl) (fun _ _ _ h => h) (by kernel_rfl) hS0 ?hy47 ?_
                  case hy47 => (intro W hW; clear hW; go_simp; try rfl)
                  simp only [Act.put, List.setIfInBounds_toArray, List.set_cons_zero, List.set_cons_succ]
                  refine takeInH 7 77 ?v48 rfl rfl (by kernel_rfl) (by kernel_rfl) (by kernel_rfl) (fun _ _ _ h => h) (by kernel_rfl) hS0 ?hy48 ?_
                  case hy48 => (intro W hW; clear hW; go_simp; try rfl)
                  simp only [Act.put, List.setIfInBounds_toArray, List.set_cons_zero, List.set_cons_succ]
                  refine takeInH 8 78 ?v49 rfl rfl (by kernel_rfl) (by kernel_rfl) (by kernel_rfl) (fun _ _ _ h => h) (by kernel_rfl) hS0 ?hy49 ?_
                  case hy49 => (intro W hW; have e0 := bcell hW c0; have e1 := bcell hW d0; clear hW; go_simp; try rfl)
                  simp only [Act.put, List.setIfInBounds_toArray, List.set_cons_zero, List.set_cons_succ]
                  refine takeInH 9 79 ?v50 rfl rfl (by kernel_rfl) (by kernel_rfl) (by kernel_rfl) (fun _ _ _ h => h) (by kernel_rfl) hS0 ?hy50 ?_
                  case hy50 => (intro W hW; clear hW; go_simp; try rfl)
                  simp only [Act.put, List.setIfInBounds_toArray, List.set_cons_zero, List.set_cons_succ]
                  refine wpAnyH_done (by kernel_rfl) ?_ _
                  go_wp2
                  go_roundw
                  case rel => exact ⟨k0 + 1, by omega, by go_num, (show Hid _ from bel_next HB.out hS0)⟩
                  case measure => simp [intOf]; omega
                · obtain rfl : k0 = n := by omega
                  go_wp2_with (go_at_call 8; refine (awake8 _).mono ?_; rintro e wz ⟨rfl, hb⟩)
                  go_ret
                  exact ⟨rfl, bel_next BW.out (bel_next HB.out hb)⟩
      · go_wp2_with (go_at_call 8; refine (awake8 _).mono ?_; rintro e wz ⟨rfl, hb⟩)
        go_ret
        exact ⟨rfl, hb⟩

/-! ### The row's step -/
set_option maxRecDepth 100000 in
theorem lifted (os : Os) (started : os.Started) (H : Type) (enc : TypeId × Value → H) :
    ReturnsInHanded {} Try.checked os 4 .any (Rows.awsetTellsSpec.pre6 enc Try.prog Try.f4 Rows.awsetTellsRow.domain false) (Rows.awsetTellsSpec.post enc Try.prog Try.f4 false true false false) := by
  refine returnsInHanded_of_change_sized (C := Try.checked) own started (by kernel_rfl) Try.func4
    (ChangeSpec.witness6 (enc := enc) (C := Try.checked) false ⟨#[], #[.slice none 0 0, .slice none 0 0, .string ⟨#[]⟩], []⟩ 8 (by kernel_rfl) (by kernel_rfl) (by kernel_rfl) (by kernel_rfl)) ?_
  intro W base args ds gs before hval0 hW hcnd hz0 _
  have hval : ∀ (j : Nat) t v, Try.f4.params[j]? = some t → args[j]? = some v → Value.okWide Try.prog W .any base t v := hval0
  have hz : (DataW.weightsEach Try.prog (Try.f4.params.toList ++ Rows.awsetTellsSpec.plain.varTypes Try.prog) (ds ++ gs)).all (· ≤ reachBytes) = true := hz0
  have hW' := hW
  obtain ⟨p, q, hA0, hV, rfl, hfz, hnd⟩ := hW
  have hA : DataW.TrodAll enc Try.prog W 0 (fun _ => true) true Try.f4.params.toList args.toList ds p := hA0
  rw [Try.params4] at hA hval hz
  obtain ⟨v0, vs0, d0, ds0, p0, q0, hargs, rfl, rfl, h0, r0⟩ := trodAll_cons hA
  obtain ⟨v1, vs1, d1, ds1, p1, q1, rfl, rfl, rfl, h1, r1⟩ := trodAll_cons r0
  obtain ⟨v2, vs2, d2, ds2, p2, q2, rfl, rfl, rfl, h2, r2⟩ := trodAll_cons r1
  obtain ⟨rfl, rfl, rfl⟩ := trodAll_nil r2
  obtain rfl : args = #[v0, v1, v2] := by cases args; simp_all
  obtain ⟨rfl, rfl⟩ := trodVars_none hV
  have k0 := h0
  have lt0 : ∀ x ∈ p0, x.block < W.heap.size := by obtain ⟨m, hm⟩ := k0; exact DataW.trod_lt m _ _ _ hm
  have w0 : InNs W v0 := in_ents (hval 0 22 v0 rfl rfl) h0 (fun n hn => by have := List.all_eq_true.1 hz n (DataW.weights_mem_each (j := 0) (t := 22) rfl rfl n hn); simpa using this)
  have k1 := h1
  have lt1 : ∀ x ∈ p1, x.block < W.heap.size := by obtain ⟨m, hm⟩ := k1; exact DataW.trod_lt m _ _ _ hm
  have w1 : InNs W v1 := in_ents (hval 1 22 v1 rfl rfl) h1 (fun n hn => by have := List.all_eq_true.1 hz n (DataW.weights_mem_each (j := 1) (t := 22) rfl rfl n hn); simpa using this)
  have k2 := h2
  have lt2 : ∀ x ∈ p2, x.block < W.heap.size := by obtain ⟨m, hm⟩ := k2; exact DataW.trod_lt m _ _ _ hm
  have w2 : InS W v2 := in_str8 (hval 2 9 v2 rfl rfl) h2 (fun n hn => by have := List.all_eq_true.1 hz n (DataW.weights_mem_each (j := 2) (t := 9) rfl rfl n hn); simpa using this)
  clear hA0 hval0 hz0
  refine (walk v0 v1 v2 W w0 w1 w2).mono fun e W' ⟨he, bel⟩ => ?_
  subst he
  exact ⟨_, rfl, _, _, _, [], _, [], hW', trodAll_mk1 (shut_bool Try.underlying4 _), (trodAll_cons_mk (Below.trod laidOut (by kernel_rfl) (of_decide_eq_true (by kernel_rfl)) k0 bel lt0) (trodAll_cons_mk (Below.trod laidOut (by kernel_rfl) (of_decide_eq_true (by kernel_rfl)) k1 bel lt1) (trodAll_cons_mk (Below.trod laidOut (by kernel_rfl) (of_decide_eq_true (by kernel_rfl)) k2 bel lt2) trodAll_mk0))), rfl, bel.frame _, fun h => by cases h⟩

theorem over : Rows.awsetTellsRow.holds Try.pinned (OpenSpec.ofChange Rows.awsetTellsSpec) :=
  OpenClaim.holds_of_wide 4 Try.f4 rfl rfl rfl rfl rfl rfl rfl ⟨rfl, rfl, rfl, rfl, rfl⟩ rfl rfl rfl rfl rfl (by kernel_rfl) Try.func4 (by kernel_rfl)
    (of_decide_eq_true (by kernel_rfl)) (by unfold Func.isWrapper; first | (rw [if_pos (by decide +kernel)]; kernel_rfl) | (rw [if_neg (by decide +kernel)]; exact ⟨rfl, rfl⟩))
    (fun os started H enc _ => lifted os started H enc)
end Go.Proofs.Ytoogahfmjgajpaa.awsetTells
namespace Go.Proofs.Ytoogahfmjgajpaa
theorem awsetTells_holds : Rows.AwsetTellsSaid := awsetTells.over
end Go.Proofs.Ytoogahfmjgajpaa
