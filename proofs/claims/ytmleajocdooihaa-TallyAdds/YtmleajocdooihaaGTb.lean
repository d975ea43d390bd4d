/- Where a key stands in a tally (layer 10); a tally copied; tallies compared. -/
import Derived.Test.YtmleajocdooihaaGT3
import Derived.Test.YtmleajocdooihaaKC
namespace Go.Proofs.Ytmleajocdooihaa
open Go.RowKit Go.Lib
set_option linter.unusedVariables false
set_option maxHeartbeats 400000 in
theorem place1T_any (k t : ByteArray) (m : Int) (w : World) : Calls Try.prog 26 #[.agg #[.string k, .int .i64 m], .string t] w fun e w' => e = .returned (.int .i64 (cmpK k t)) ∧ Below w.heap.size w w' := by
  go_enter Try.func26, Try.ntmps26
  go_wp2_with (go_at_call 27; refine (Compare_any _ _ _).mono ?_; rintro e w' ⟨rfl, rfl⟩)
  go_ret
  exact ⟨rfl, bel1 _ _⟩
set_option maxHeartbeats 2000000 in
theorem searchT_any (a : Option Addr) (n cap : Nat) (s : List Ce) (t : ByteArray) (w : World) (hA : TS w a n s) (hS : SrtG kC s) (hn : n ≤ 4000) :
    Calls Try.prog 25 #[.slice a n cap, .string t, .func (.func 26) #[] #[]] w fun e w' => (∃ i : Nat, e = .returned (.tuple #[.int .i64 i, .bool (thereG kC s t i)]) ∧ PlaceG kC s t i) ∧ Below w.heap.size w w' := by
  have HV := hide hA
  have HLEN := hide hA.1
  have HS := hide hS
  clear hA hS
  go_enter Try.func25, Try.ntmps25
  go_wp2
  go_loopw [9, 10] (fun vi vj wr => ∃ i j : Nat, i ≤ j ∧ j ≤ n ∧ vi = .int .i64 i ∧ vj = .int .i64 j ∧ Hid (Below w.heap.size w wr) ∧ Hid (∀ q x, q < i → s[q]? = some x → ltK (kC x) t = true) ∧ Hid (∀ q x, j ≤ q → s[q]? = some x → ltK (kC x) t = false)) (fun vi vj _ => (intOf vj).toNat - (intOf vi).toNat)
  case atStart => exact ⟨0, n, by omega, by omega, rfl, rfl, Below.refl _ _, fun q x h => absurd h (Nat.not_lt_zero _), fun q x h1 h2 => by have := (List.getElem?_eq_some_iff.1 h2).1; rw [HLEN.out] at this; omega⟩
  case round =>
    obtain ⟨i, j, hij, hjn, rfl, rfl, HB, H1, H2⟩ := hrel
    by_cases hlt : i < j
    · obtain ⟨h, hh⟩ : ∃ h : Nat, h = (i + j) / 2 := ⟨_, rfl⟩
      have hih : i ≤ h := by omega
      have hhj : h < j := by omega
      have hI : ((i : Int) + (j : Int)) / 2 = (h : Int) := by omega
      have hh0 : (0 : Int) ≤ (h : Int) := by omega
      have hh1 : (h : Int) < (n : Int) := by omega
      clear hh
      obtain ⟨b, off, rfl⟩ := HV.out.addr (by omega)
      obtain ⟨k, m, hx, c0, c1⟩ := (HV.out.below HB.out).at h (by omega)
      have HX := hide hx
      clear hx
      rcases hl : ltK k t with _ | _
      · have hc : ¬ cmpK k t < 0 := by rw [cmpK_lt, hl]; simp
        have H3 := hide (halveG_hi HS.out HX.out hl)
        clear hl
        have HCM := hide (place1T_any k t m)
        generalize cmpK k t = z at *
        go_wp2_with (go_at_call 26; refine (HCM.out _).mono ?_; rintro e w' ⟨rfl, hb⟩)
        go_roundw
        case rel => exact ⟨i, h, hih, by omega, rfl, rfl, (show Hid _ from bel_next HB.out hb), H1, H3⟩
        case measure => simp [intOf]; omega
      · have hc : cmpK k t < 0 := by rw [cmpK_lt, hl]
        have H3 := hide (halveG_lo HS.out HX.out hl)
        clear hl
        have HCM := hide (place1T_any k t m)
        generalize cmpK k t = z at *
        go_wp2_with (go_at_call 26; refine (HCM.out _).mono ?_; rintro e w' ⟨rfl, hb⟩)
        go_roundw
        case rel => exact ⟨h + 1, j, by omega, by omega, by go_num, rfl, (show Hid _ from bel_next HB.out hb), H3, H2⟩
        case measure => simp [intOf]; omega
    · obtain rfl : i = j := by omega
      have HP : Hid (PlaceG kC s t i) := ⟨by rw [HLEN.out]; omega, H1.out, H2.out⟩
      clear H1 H2
      by_cases hin : i < n
      · obtain ⟨b, off, rfl⟩ := HV.out.addr (by omega)
        obtain ⟨k, m, hx, c0, c1⟩ := (HV.out.below HB.out).at i hin
        have HX : Hid (thereG kC s t i = (cmpK k t == 0)) := by
          unfold Hid thereG
          rw [hx, Bool.eq_iff_iff]
          simp [cmpK_eq]
        have hi0 : (0 : Int) ≤ (i : Int) := by omega
        have hi1 : (i : Int) < (n : Int) := by omega
        clear hx
        have HCM := hide (place1T_any k t m)
        generalize cmpK k t = z at *
        go_wp2_with (go_at_call 26; refine (HCM.out _).mono ?_; rintro e w' ⟨rfl, hb⟩)
        go_ret2
        exact ⟨⟨i, by rw [HX.out]; rfl, HP.out⟩, bel_next HB.out hb⟩
      · have HX : Hid (thereG kC s t i = false) := by
          unfold Hid thereG
          rw [List.getElem?_eq_none (by rw [HLEN.out]; omega)]
        go_wp2
        go_ret2
        exact ⟨⟨i, by rw [HX.out]; rfl, HP.out⟩, HB.out⟩
set_option maxHeartbeats 400000 in
theorem placeT_any (a : Option Addr) (n cap : Nat) (s : List Ce) (t : ByteArray) (w : World) (hA : TS w a n s) (hS : SrtG kC s) (hn : n ≤ 4000) :
    Calls Try.prog 21 #[.slice a n cap, .string t] w fun e w' => (∃ i : Nat, e = .returned (.tuple #[.int .i64 i, .bool (thereG kC s t i)]) ∧ PlaceG kC s t i) ∧ Below w.heap.size w w' := by
  go_enter Try.func21, Try.ntmps21
  go_wp2_with (go_at_call 25; refine (searchT_any a n cap s t _ hA hS hn).mono ?_; rintro e w' ⟨⟨i, rfl, hp⟩, hb⟩)
  go_ret2
  exact ⟨⟨i, rfl, hp⟩, hb⟩
set_option maxHeartbeats 1000000 in
theorem cloneT_any (a : Option Addr) (n cap : Nat) (l : List Ce) (w : World) (hD : TS w a n l) (hn : n ≤ 100000) :
    Calls Try.prog 22 #[.slice a n cap] w fun e w' => ∃ v, e = .returned v ∧ OwnR encC 2 36 w.heap.size w' v l ∧ Below w.heap.size w w' := by
  have q22 : ∀ (w : World) (a : Option Addr) (n c n' c' : Nat), (binOp .eql 22 (.slice a n c) (.slice none n' c')).run Try.prog w = .ok (.bool a.isNone) w := fun w a n c n' c' => Lib.run_eql_slice_nil w _ _ a n c n' c' Try.underlying22
  rcases a with _ | p
  · have hl : l = [] := by
      rcases hD.2.2 with h0 | ⟨b, off, hh, _⟩
      · exact List.eq_nil_of_length_eq_zero (by rw [hD.1, h0])
      · cases hh
    subst hl
    clear hD
    go_enter Try.func22, Try.ntmps22
    go_wp2
    go_ret
    exact ⟨_, rfl, OwnR.nil _ _, Below.refl _ _⟩
  · have HD0 := hide hD
    have HLEN := hide hD.1
    clear hD
    have BQ := hide (bel1 w (.cells #[] 36))
    go_enter Try.func22, Try.ntmps22
    go_wp2_with (at_builtin; refine Stop.at ?_)
    unfold Stop
    refine append_rows rfl _ _ 22 rfl Try.underlying22 Try.infoCel rfl (by decide) (by decide) encC_len encC_one w.heap.size _ [] l rfl (OwnR.made w w.heap.size w.heap.size rfl (Nat.le_refl _)) (some p) n cap rfl (fun h => by cases h) (HD0.out.below BQ.out) (by rw [HLEN.out, List.length_nil]; omega) BQ.out.size ?_
    intro v3 w3 ho3 hg3 hbel3
    have HB3 := hide (hbel3 _ BQ.out)
    rw [List.nil_append] at ho3
    have HO := hide ho3
    clear ho3 hg3 hbel3
    go_wp2
    go_ret
    exact ⟨_, rfl, HO.out, HB3.out⟩
set_option maxHeartbeats 4000000 in
theorem equalT_any (a : Option Addr) (n cap : Nat) (s : List Ce) (a' : Option Addr) (n' cap' : Nat) (s' : List Ce) (w : World) (hA : TS w a n s) (hA' : TS w a' n' s') : Calls Try.prog 23 #[.slice a n cap, .slice a' n' cap'] w fun e w' => e = .returned (.bool (decide (s = s'))) ∧ Below w.heap.size w w' := by
  have HV := hide hA
  have HV' := hide hA'
  have HLEN := hide hA.1
  have HLEN' := hide hA'.1
  have hmx := hA.2.1
  unfold maxLen at hmx
  clear hA hA'
  by_cases hnn : n = n'
  · subst hnn
    go_enter Try.func23, Try.ntmps23
    go_wp2
    go_loopw [13] (fun v wr => ∃ k : Nat, k ≤ n ∧ v = .int .i64 k ∧ Hid (s.take k = s'.take k) ∧ Hid (Below w.heap.size w wr)) (fun v _ => n - (intOf v).toNat)
    case atStart => exact ⟨0, by omega, rfl, (show _ = _ by simp), Below.refl _ _⟩
    case round =>
      obtain ⟨k0, hk, rfl, HF, HB⟩ := hrel
      by_cases hlt : k0 < n
      · obtain ⟨b, off, rfl⟩ := HV.out.addr (by omega)
        obtain ⟨b', off', rfl⟩ := HV'.out.addr (by omega)
        obtain ⟨k, m, hx, c0, c1⟩ := (HV.out.below HB.out).at k0 hlt
        obtain ⟨k', m', hx', d0, d1⟩ := (HV'.out.below HB.out).at k0 hlt
        have hk0 : (0 : Int) ≤ (k0 : Int) := by omega
        have hk1 : (k0 : Int) < (n : Int) := by omega
        have hq := eqK k k'
        have HX := hide hx
        have HX' := hide hx'
        clear hx hx'
        by_cases he : k = k'
        · rw [decide_eq_true he] at hq
          by_cases hm : m = m'
          · have HF2 : Hid (s.take (k0 + 1) = s'.take (k0 + 1)) := by unfold Hid; rw [takeG_snoc HX.out, takeG_snoc HX'.out, HF.out, he, hm]
            have hm2 : (m == m') = true := by rw [hm]; simp
            subst he hm
            go_upto_region 6 with fail
            refine wp_region_held_drew (S := fun W => Below wr.heap.size wr W) (by kernel_rfl) ((Below.refl _ wr).drew) (fun hS0 => ?_)
            refine takeInH 0 16 ?v1 rfl rfl (by kernel_rfl) (by kernel_rfl) (by kernel_rfl) (fun _ _ _ h => h) (by kernel_rfl) hS0 ?hy1 ?_
            case hy1 => (intro W hW; clear hW; go_simp; try rfl)
            simp only [Act.put, List.setIfInBounds_toArray, List.set_cons_zero, List.set_cons_succ]
            refine takeInH 1 17 ?v2 rfl rfl (by kernel_rfl) (by kernel_rfl) (by kernel_rfl) (fun _ _ _ h => h) (by kernel_rfl) hS0 ?hy2 ?_
            case hy2 => (intro W hW; clear hW; go_simp; try rfl)
            simp only [Act.put, List.setIfInBounds_toArray, List.set_cons_zero, List.set_cons_succ]
            refine takeInH 2 18 ?v3 rfl rfl (by kernel_rfl) (by kernel_rfl) (by kernel_rfl) (fun _ _ _ h => h) (by kernel_rfl) hS0 ?hy3 ?_
            case hy3 => (intro W hW; clear hW; go_simp; try rfl)
            simp only [Act.put, List.setIfInBounds_toArray, List.set_cons_zero, List.set_cons_succ]
            refine takeInH 3 19 ?v4 rfl rfl (by kernel_rfl) (by kernel_rfl) (by kernel_rfl) (fun _ _ _ h => h) (by kernel_rfl) hS0 ?hy4 ?_
            case hy4 => (intro W hW; have e0 := bcell hW c0; have e1 := bcell hW c1; have e2 := bcell hW d0; have e3 := bcell hW d1; clear hW; go_simp; try rfl)
            simp only [Act.put, List.setIfInBounds_toArray, List.set_cons_zero, List.set_cons_succ]
            refine takeInH 4 20 ?v5 rfl rfl (by kernel_rfl) (by kernel_rfl) (by kernel_rfl) (fun _ _ _ h => h) (by kernel_rfl) hS0 ?hy5 ?_
            case hy5 => (intro W hW; clear hW; go_simp; try rfl)
            simp only [Act.put, List.setIfInBounds_toArray, List.set_cons_zero, List.set_cons_succ]
            refine takeInH 5 21 ?v6 rfl rfl (by kernel_rfl) (by kernel_rfl) (by kernel_rfl) (fun _ _ _ h => h) (by kernel_rfl) hS0 ?hy6 ?_
            case hy6 => (intro W hW; clear hW; go_simp; try rfl)
            simp only [Act.put, List.setIfInBounds_toArray, List.set_cons_zero, List.set_cons_succ]
            refine takeInH 6 22 ?v7 rfl rfl (by kernel_rfl) (by kernel_rfl) (by kernel_rfl) (fun _ _ _ h => h) (by kernel_rfl) hS0 ?hy7 ?_
            case hy7 => (intro W hW; clear hW; go_simp; try rfl)
            simp only [Act.put, List.setIfInBounds_toArray, List.set_cons_zero, List.set_cons_succ]
            refine takeInH 7 23 ?v8 rfl rfl (by kernel_rfl) (by kernel_rfl) (by kernel_rfl) (fun _ _ _ h => h) (by kernel_rfl) hS0 ?hy8 ?_
            case hy8 => (intro W hW; have e0 := bcell hW c0; have e1 := bcell hW c1; have e2 := bcell hW d0; have e3 := bcell hW d1; clear hW; go_simp; try rfl)
            simp only [Act.put, List.setIfInBounds_toArray, List.set_cons_zero, List.set_cons_succ]
            refine takeInH 8 24 ?v9 rfl rfl (by kernel_rfl) (by kernel_rfl) (by kernel_rfl) (fun _ _ _ h => h) (by kernel_rfl) hS0 ?hy9 ?_
            case hy9 => (intro W hW; clear hW; go_simp; try rfl)
            simp only [Act.put, List.setIfInBounds_toArray, List.set_cons_zero, List.set_cons_succ]
            refine wpAnyH_done (by kernel_rfl) ?_ _
            go_wp2
            go_roundw
            case rel => exact ⟨k0 + 1, by omega, by go_num, HF2, (show Hid _ from bel_next HB.out hS0)⟩
            case measure => simp [intOf]; omega
          · have HNO : Hid (decide (s = s') = false) := by
              unfold Hid
              rw [decide_eq_false_iff_not]
              intro q
              have h1 := HX.out
              rw [q, HX'.out] at h1
              cases h1
              exact hm rfl
            have hm2 : (m == m') = false := by rw [beq_eq_false_iff_ne]; exact hm
            subst he
            go_upto_region 6 with fail
            refine wp_region_held_drew (S := fun W => Below wr.heap.size wr W) (by kernel_rfl) ((Below.refl _ wr).drew) (fun hS0 => ?_)
            refine takeInH 0 16 ?v10 rfl rfl (by kernel_rfl) (by kernel_rfl) (by kernel_rfl) (fun _ _ _ h => h) (by kernel_rfl) hS0 ?hy10 ?_
            case hy10 => (intro W hW; clear hW; go_simp; try rfl)
            simp only [Act.put, List.setIfInBounds_toArray, List.set_cons_zero, List.set_cons_succ]
            refine takeInH 1 17 ?v11 rfl rfl (by kernel_rfl) (by kernel_rfl) (by kernel_rfl) (fun _ _ _ h => h) (by kernel_rfl) hS0 ?hy11 ?_
            case hy11 => (intro W hW; clear hW; go_simp; try rfl)
            simp only [Act.put, List.setIfInBounds_toArray, List.set_cons_zero, List.set_cons_succ]
            refine takeInH 2 18 ?v12 rfl rfl (by kernel_rfl) (by kernel_rfl) (by kernel_rfl) (fun _ _ _ h => h) (by kernel_rfl) hS0 ?hy12 ?_
            case hy12 => (intro W hW; clear hW; go_simp; try rfl)
            simp only [Act.put, List.setIfInBounds_toArray, List.set_cons_zero, List.set_cons_succ]
            refine takeInH 3 19 ?v13 rfl rfl (by kernel_rfl) (by kernel_rfl) (by kernel_rfl) (fun _ _ _ h => h) (by kernel_rfl) hS0 ?hy13 ?_
            case hy13 => (intro W hW; have e0 := bcell hW c0; have e1 := bcell hW c1; have e2 := bcell hW d0; have e3 := bcell hW d1; clear hW; go_simp; try rfl)
            simp only [Act.put, List.setIfInBounds_toArray, List.set_cons_zero, List.set_cons_succ]
            refine takeInH 4 20 ?v14 rfl rfl (by kernel_rfl) (by kernel_rfl) (by kernel_rfl) (fun _ _ _ h => h) (by kernel_rfl) hS0 ?hy14 ?_
            case hy14 => (intro W hW; clear hW; go_simp; try rfl)
            simp only [Act.put, List.setIfInBounds_toArray, List.set_cons_zero, List.set_cons_succ]
            refine takeInH 5 21 ?v15 rfl rfl (by kernel_rfl) (by kernel_rfl) (by kernel_rfl) (fun _ _ _ h => h) (by kernel_rfl) hS0 ?hy15 ?_
            case hy15 => (intro W hW; clear hW; go_simp; try rfl)
            simp only [Act.put, List.setIfInBounds_toArray, List.set_cons_zero, List.set_cons_succ]
            refine takeInH 6 22 ?v16 rfl rfl (by kernel_rfl) (by kernel_rfl) (by kernel_rfl) (fun _ _ _ h => h) (by kernel_rfl) hS0 ?hy16 ?_
            case hy16 => (intro W hW; clear hW; go_simp; try rfl)
            simp only [Act.put, List.setIfInBounds_toArray, List.set_cons_zero, List.set_cons_succ]
            refine takeInH 7 23 ?v17 rfl rfl (by kernel_rfl) (by kernel_rfl) (by kernel_rfl) (fun _ _ _ h => h) (by kernel_rfl) hS0 ?hy17 ?_
            case hy17 => (intro W hW; have e0 := bcell hW c0; have e1 := bcell hW c1; have e2 := bcell hW d0; have e3 := bcell hW d1; clear hW; go_simp; try rfl)
            simp only [Act.put, List.setIfInBounds_toArray, List.set_cons_zero, List.set_cons_succ]
            refine takeInH 8 24 ?v18 rfl rfl (by kernel_rfl) (by kernel_rfl) (by kernel_rfl) (fun _ _ _ h => h) (by kernel_rfl) hS0 ?hy18 ?_
            case hy18 => (intro W hW; clear hW; go_simp; try rfl)
            simp only [Act.put, List.setIfInBounds_toArray, List.set_cons_zero, List.set_cons_succ]
            refine wpAnyH_done (by kernel_rfl) ?_ _
            go_wp2
            go_ret
            exact ⟨by rw [HNO.out]; rfl, bel_next HB.out hS0⟩
        · have HNO : Hid (decide (s = s') = false) := by
            unfold Hid
            rw [decide_eq_false_iff_not]
            intro q
            have h1 := HX.out
            rw [q, HX'.out] at h1
            cases h1
            exact he rfl
          rw [decide_eq_false he] at hq
          go_upto_region 6 with fail
          refine wp_region_held_drew (S := fun W => Below wr.heap.size wr W) (by kernel_rfl) ((Below.refl _ wr).drew) (fun hS0 => ?_)
          refine takeInH 0 16 ?v19 rfl rfl (by kernel_rfl) (by kernel_rfl) (by kernel_rfl) (fun _ _ _ h => h) (by kernel_rfl) hS0 ?hy19 ?_
          case hy19 => (intro W hW; clear hW; go_simp; try rfl)
          simp only [Act.put, List.setIfInBounds_toArray, List.set_cons_zero, List.set_cons_succ]
          refine takeInH 1 17 ?v20 rfl rfl (by kernel_rfl) (by kernel_rfl) (by kernel_rfl) (fun _ _ _ h => h) (by kernel_rfl) hS0 ?hy20 ?_
          case hy20 => (intro W hW; clear hW; go_simp; try rfl)
          simp only [Act.put, List.setIfInBounds_toArray, List.set_cons_zero, List.set_cons_succ]
          refine takeInH 2 18 ?v21 rfl rfl (by kernel_rfl) (by kernel_rfl) (by kernel_rfl) (fun _ _ _ h => h) (by kernel_rfl) hS0 ?hy21 ?_
          case hy21 => (intro W hW; clear hW; go_simp; try rfl)
          simp only [Act.put, List.setIfInBounds_toArray, List.set_cons_zero, List.set_cons_succ]
          refine takeInH 3 19 ?v22 rfl rfl (by kernel_rfl) (by kernel_rfl) (by kernel_rfl) (fun _ _ _ h => h) (by kernel_rfl) hS0 ?hy22 ?_
          case hy22 => (intro W hW; have e0 := bcell hW c0; have e1 := bcell hW c1; have e2 := bcell hW d0; have e3 := bcell hW d1; clear hW; go_simp; try rfl)
          simp only [Act.put, List.setIfInBounds_toArray, List.set_cons_zero, List.set_cons_succ]
          refine takeInH 4 20 ?v23 rfl rfl (by kernel_rfl) (by kernel_rfl) (by kernel_rfl) (fun _ _ _ h => h) (by kernel_rfl) hS0 ?hy23 ?_
          case hy23 => (intro W hW; clear hW; go_simp; try rfl)
          simp only [Act.put, List.setIfInBounds_toArray, List.set_cons_zero, List.set_cons_succ]
          refine takeInH 5 21 ?v24 rfl rfl (by kernel_rfl) (by kernel_rfl) (by kernel_rfl) (fun _ _ _ h => h) (by kernel_rfl) hS0 ?hy24 ?_
          case hy24 => (intro W hW; clear hW; go_simp; try rfl)
          simp only [Act.put, List.setIfInBounds_toArray, List.set_cons_zero, List.set_cons_succ]
          refine takeInH 6 22 ?v25 rfl rfl (by kernel_rfl) (by kernel_rfl) (by kernel_rfl) (fun _ _ _ h => h) (by kernel_rfl) hS0 ?hy25 ?_
          case hy25 => (intro W hW; clear hW; go_simp; try rfl)
          simp only [Act.put, List.setIfInBounds_toArray, List.set_cons_zero, List.set_cons_succ]
          refine takeInH 7 23 ?v26 rfl rfl (by kernel_rfl) (by kernel_rfl) (by kernel_rfl) (fun _ _ _ h => h) (by kernel_rfl) hS0 ?hy26 ?_
          case hy26 => (intro W hW; have e0 := bcell hW c0; have e1 := bcell hW c1; have e2 := bcell hW d0; have e3 := bcell hW d1; clear hW; go_simp; try rfl)
          simp only [Act.put, List.setIfInBounds_toArray, List.set_cons_zero, List.set_cons_succ]
          refine takeInH 8 24 ?v27 rfl rfl (by kernel_rfl) (by kernel_rfl) (by kernel_rfl) (fun _ _ _ h => h) (by kernel_rfl) hS0 ?hy27 ?_
          case hy27 => (intro W hW; clear hW; go_simp; try rfl)
          simp only [Act.put, List.setIfInBounds_toArray, List.set_cons_zero, List.set_cons_succ]
          refine wpAnyH_done (by kernel_rfl) ?_ _
          go_wp2
          go_ret
          exact ⟨by rw [HNO.out]; rfl, bel_next HB.out hS0⟩
      · obtain rfl : k0 = n := by omega
        have HR : Hid (s = s') := by
          have := HF.out
          rwa [List.take_of_length_le (by rw [HLEN.out]; exact Nat.le_refl _), List.take_of_length_le (by rw [HLEN'.out]; exact Nat.le_refl _)] at this
        clear HF
        go_wp2
        go_ret
        exact ⟨by rw [decide_eq_true HR.out]; rfl, HB.out⟩
  · have HNO : Hid (decide (s = s') = false) := by
      unfold Hid
      rw [decide_eq_false_iff_not]
      intro q
      have := HLEN.out
      rw [q, HLEN'.out] at this
      exact hnn this.symm
    have hnz : ¬ (n : Int) = (n' : Int) := by omega
    have hnb : ((n : Int) == (n' : Int)) = false := by rw [beq_eq_false_iff_ne]; exact hnz
    go_enter Try.func23, Try.ntmps23
    go_wp2
    go_ret
    exact ⟨by rw [HNO.out]; rfl, Below.refl _ _⟩
end Go.Proofs.Ytmleajocdooihaa
