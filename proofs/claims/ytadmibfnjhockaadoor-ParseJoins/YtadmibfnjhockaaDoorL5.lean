/- Number of the document (layer 14). -/
import Derived.Test.YtadmibfnjhockaaDoorL4
namespace Go.Proofs.YtadmibfnjhockaaDoor
open Go.RowKit Go.Lib
set_option linter.unusedVariables false
theorem takeG_snoc14 {l : List Int} {k : Nat} {x : Int} (h : l[k]? = some x) : l.take (k + 1) = l.take k ++ [x] := by
  rw [List.take_add_one, h]
  rfl
theorem valU_snoc (l : List Int) (c : Int) : valU (l ++ [c]) = if isDg c = true then 10 * valU l + (c - 48).toNat else valU l := by
  unfold valU
  rw [List.filter_append, List.foldl_append]
  rcases h : isDg c with _ | _
  · rw [if_neg (by decide), List.filter_cons_of_neg (by rw [h]; decide)]; rfl
  · rw [if_pos rfl, List.filter_cons_of_pos h]; rfl
theorem digs_by (n : Int) : By (digs n) := fun c hc => by
  have h := (digs_wd n).1 c hc
  unfold isWd isLt isDg at h
  simp only [Bool.or_eq_true, decide_eq_true_iff] at h
  omega
theorem str_by14 (s : ByteArray) : strOfNums (bytesL s) = s := by
  obtain ⟨⟨d⟩⟩ := s
  simp [strOfNums, bytesL]
  apply List.ext_getElem
  · simp
  · intro i h1 h2; simp
theorem cmp14 (z : Int) (s : ByteArray) : ((strOfNums (digs z)).toList == s.toList) = decide (digs z = bytesL s) := by
  have q := str_toList (digs z) (bytesL s) (digs_by z) (bytesL_by s)
  rw [str_by14] at q
  exact q
set_option maxRecDepth 2000 in
set_option maxHeartbeats 4000000 in
theorem Number14 (s : ByteArray) (w : World) (hs : s.size ≤ 10000) : Calls Tryd.prog 27 #[.string s] w fun e w' => e = .returned (.tuple #[.int .i64 (valN (bytesL s)), .bool (numB (bytesL s))]) ∧ Below w.heap.size w w' := by
  obtain ⟨n, hn⟩ : ∃ n, s.size = n := ⟨_, rfl⟩
  have HN := hide hn
  go_enter Tryd.func27, Tryd.ntmps27
  go_wp2
  go_loopw [4, 5] (fun z v wr => ∃ (i x : Nat), i ≤ n ∧ i ≤ 6 ∧ v = .int .i64 i ∧ z = .int .i64 (x : Int) ∧ x < 10 ^ i ∧ Hid (valU ((bytesL s).take i) = x) ∧ wr = w) (fun _ v _ => 7 - (intOf v).toNat)
  case atStart => exact ⟨0, 0, by omega, by omega, rfl, rfl, by decide, rfl, rfl⟩
  case round =>
    obtain ⟨i, x, hi, hi6, rfl, rfl, hx, HF, hww⟩ := hrel
    have hww2 := hww.symm
    subst hww2
    clear hww
    have hxb : x < 1000000 := Nat.lt_of_lt_of_le hx (Nat.le_trans (Nat.pow_le_pow_right (by omega) hi6) (by decide))
    by_cases hlt : i < n
    · by_cases hl6 : i < 6
      · have hi0 : (0 : Int) ≤ (i : Int) := by omega
        have hi1 : (i : Int) < (n : Int) := by omega
        have hi2 : (i : Int) < 6 := by omega
        have HAT := hide (bytesL_at (s := s) (i := i) (by rw [hn]; exact hlt))
        have hix : ∀ h : i < s.size, ((s[i]'h).toNat : Int) = byS s i := fun h => byS_is h
        generalize byS s i = c at *
        have HNX := hide (valU_snoc ((bytesL s).take i) c)
        rw [← takeG_snoc14 HAT.out, HF.out] at HNX
        rcases hd : isDg c with _ | _
        · have HD := hide hd
          rw [hd, if_neg (by decide)] at HNX
          have hx2 : x < 10 ^ (i + 1) := Nat.lt_of_lt_of_le hx (Nat.pow_le_pow_right (by omega) (by omega))
          clear hd HAT
          go_wp2_with (go_at_call 26; refine (digit14 c _).mono ?_; rintro e wl ⟨rfl, hw9⟩; have hw8 := hw9.symm; subst hw8; clear hw9; rw [HD.out])
          go_roundw
          case rel => exact ⟨i + 1, x, by omega, by omega, by go_num, rfl, hx2, HNX, by trivial⟩
          case measure => simp [intOf]; omega
        · have HD := hide hd
          rw [hd, if_pos rfl] at HNX
          unfold isDg at hd
          rw [decide_eq_true_iff] at hd
          have hc1 := hd.1
          have hc2 := hd.2
          obtain ⟨q, hq⟩ : ∃ q : Nat, c = 48 + (q : Int) := ⟨(c - 48).toNat, by omega⟩
          have hx2 : 10 * x + q < 10 ^ (i + 1) := by rw [Nat.pow_succ]; omega
          have HN2 : Hid (valU ((bytesL s).take (i + 1)) = 10 * x + q) := by unfold Hid; rw [HNX.out]; omega
          have hval : 10 * (x : Int) + (c - 48) = ((10 * x + q : Nat) : Int) := by omega
          clear HNX HAT hd
          go_upto_region 6 with (go_at_call 26; refine (digit14 c _).mono ?_; rintro e wl ⟨rfl, hw9⟩; have hw8 := hw9.symm; subst hw8; clear hw9; rw [HD.out])
          go_wp2
          go_roundw
          case rel => exact ⟨i + 1, 10 * x + q, by omega, by omega, by go_num, (by first | rfl | (simp; omega)), hx2, HN2, by trivial⟩
          case measure => simp [intOf]; omega
      · have hi2 : ¬ (i : Int) < 6 := by omega
        obtain rfl : i = 6 := by omega
        have HX : Hid (valU ((bytesL s).take 6) = x) := HF
        clear HF hx hi6 hl6
        have HB := hide (Below.refl w.heap.size w)
        by_cases h0 : n = 0
        · have hem : s.toList.isEmpty = true := by rw [ByteArray.toList_eq]; have : s.data.toList.length = 0 := by simpa [h0] using HN.out
                                                   rw [List.isEmpty_iff]; exact List.length_eq_zero_iff.1 this
          have HV : Hid (valN (bytesL s) = (x : Int)) := by
            have e : bytesL s = [] := List.length_eq_zero_iff.1 (by rw [bytesL_sz, HN.out, h0])
            unfold Hid valN
            rw [e] at HX ⊢
            rw [if_neg (by simp), ← HX.out]
          clear h0
          go_upto_region 9 with fail
          generalize (x : Int) = z at *
          by_cases hz1 : -9999 ≤ z
          · by_cases hz2 : z ≤ 9999
            · have HDG := hide (fun W => Digits14 z W ⟨hz1, hz2⟩)
              have HQ := hide (cmp14 z s)
              rcases hq : decide (digs z = bytesL s) with _ | _
              · have hcm : ((strOfNums (digs z)).toList == s.toList) = false := by rw [HQ.out, hq]
                have HR : Hid (numB (bytesL s) = false) := by unfold Hid numB; rw [HV.out]; rw [decide_eq_false_iff_not] at hq; exact decide_eq_false (fun h => hq h.2.2)
                clear hq HQ
                go_wp2_with (go_at_call 38; refine (HDG.out _).mono ?_; rintro e wd ⟨rfl, hb⟩; replace HB := hide hb; clear hb)
                go_ret2
                exact ⟨by rw [HV.out, HR.out]; rfl, HB.out⟩
              · have hcm : ((strOfNums (digs z)).toList == s.toList) = true := by rw [HQ.out, hq]
                have HR : Hid (numB (bytesL s) = true) := by unfold Hid numB; rw [HV.out]; rw [decide_eq_true_iff] at hq; exact decide_eq_true ⟨hz1, hz2, hq⟩
                clear hq HQ
                go_wp2_with (go_at_call 38; refine (HDG.out _).mono ?_; rintro e wd ⟨rfl, hb⟩; replace HB := hide hb; clear hb)
                go_ret2
                exact ⟨by rw [HV.out, HR.out]; rfl, HB.out⟩
            · have HR : Hid (numB (bytesL s) = false) := by unfold Hid numB; rw [HV.out]; exact decide_eq_false (fun h => hz2 h.2.1)
              go_wp2
              go_ret2
              exact ⟨by rw [HV.out, HR.out]; rfl, HB.out⟩
          · have HR : Hid (numB (bytesL s) = false) := by unfold Hid numB; rw [HV.out]; exact decide_eq_false (fun h => hz1 h.1)
            go_wp2
            go_ret2
            exact ⟨by rw [HV.out, HR.out]; rfl, HB.out⟩
        · have hem : s.toList.isEmpty = false := by
            rw [ByteArray.toList_eq]
            rcases hh : s.data.toList with _ | ⟨a, t⟩
            · exfalso; have : s.data.toList.length = n := by simpa using HN.out
              rw [hh] at this; simp at this; omega
            · rfl
          have hz0 : 0 < s.size := by rw [HN.out]; omega
          have hn0 : (0 : Int) < (n : Int) := by omega
          have hn1 : 0 < n := by omega
          have hix : ∀ h : 0 < s.size, ((s[0]'h).toNat : Int) = byS s 0 := fun h => byS_is h
          have HHD : Hid ((bytesL s).head? = some (byS s 0)) := by
            unfold Hid
            rw [List.head?_eq_getElem?]
            exact bytesL_at hz0
          generalize byS s 0 = c0 at *
          by_cases hm : c0 = 45
          · have HV : Hid (valN (bytesL s) = -(x : Int)) := by
              unfold Hid valN
              rw [if_pos (by rw [HHD.out, hm]), ← HX.out]
            clear h0
            go_upto_region 9 with fail
            generalize -(x : Int) = z at *
            by_cases hz1 : -9999 ≤ z
            · by_cases hz2 : z ≤ 9999
              · have HDG := hide (fun W => Digits14 z W ⟨hz1, hz2⟩)
                have HQ := hide (cmp14 z s)
                rcases hq : decide (digs z = bytesL s) with _ | _
                · have hcm : ((strOfNums (digs z)).toList == s.toList) = false := by rw [HQ.out, hq]
                  have HR : Hid (numB (bytesL s) = false) := by unfold Hid numB; rw [HV.out]; rw [decide_eq_false_iff_not] at hq; exact decide_eq_false (fun h => hq h.2.2)
                  clear hq HQ
                  go_wp2_with (go_at_call 38; refine (HDG.out _).mono ?_; rintro e wd ⟨rfl, hb⟩; replace HB := hide hb; clear hb)
                  go_ret2
                  exact ⟨by rw [HV.out, HR.out]; rfl, HB.out⟩
                · have hcm : ((strOfNums (digs z)).toList == s.toList) = true := by rw [HQ.out, hq]
                  have HR : Hid (numB (bytesL s) = true) := by unfold Hid numB; rw [HV.out]; rw [decide_eq_true_iff] at hq; exact decide_eq_true ⟨hz1, hz2, hq⟩
                  clear hq HQ
                  go_wp2_with (go_at_call 38; refine (HDG.out _).mono ?_; rintro e wd ⟨rfl, hb⟩; replace HB := hide hb; clear hb)
                  go_ret2
                  exact ⟨by rw [HV.out, HR.out]; rfl, HB.out⟩
              · have HR : Hid (numB (bytesL s) = false) := by unfold Hid numB; rw [HV.out]; exact decide_eq_false (fun h => hz2 h.2.1)
                go_wp2
                go_ret2
                exact ⟨by rw [HV.out, HR.out]; rfl, HB.out⟩
            · have HR : Hid (numB (bytesL s) = false) := by unfold Hid numB; rw [HV.out]; exact decide_eq_false (fun h => hz1 h.1)
              go_wp2
              go_ret2
              exact ⟨by rw [HV.out, HR.out]; rfl, HB.out⟩
          · have HV : Hid (valN (bytesL s) = (x : Int)) := by
              unfold Hid valN
              rw [if_neg (by rw [HHD.out]; simpa using hm), ← HX.out]
            have hm2 : (c0 == 45) = false := by simpa using hm
            clear h0
            go_upto_region 9 with fail
            generalize (x : Int) = z at *
            by_cases hz1 : -9999 ≤ z
            · by_cases hz2 : z ≤ 9999
              · have HDG := hide (fun W => Digits14 z W ⟨hz1, hz2⟩)
                have HQ := hide (cmp14 z s)
                rcases hq : decide (digs z = bytesL s) with _ | _
                · have hcm : ((strOfNums (digs z)).toList == s.toList) = false := by rw [HQ.out, hq]
                  have HR : Hid (numB (bytesL s) = false) := by unfold Hid numB; rw [HV.out]; rw [decide_eq_false_iff_not] at hq; exact decide_eq_false (fun h => hq h.2.2)
                  clear hq HQ
                  go_wp2_with (go_at_call 38; refine (HDG.out _).mono ?_; rintro e wd ⟨rfl, hb⟩; replace HB := hide hb; clear hb)
                  go_ret2
                  exact ⟨by rw [HV.out, HR.out]; rfl, HB.out⟩
                · have hcm : ((strOfNums (digs z)).toList == s.toList) = true := by rw [HQ.out, hq]
                  have HR : Hid (numB (bytesL s) = true) := by unfold Hid numB; rw [HV.out]; rw [decide_eq_true_iff] at hq; exact decide_eq_true ⟨hz1, hz2, hq⟩
                  clear hq HQ
                  go_wp2_with (go_at_call 38; refine (HDG.out _).mono ?_; rintro e wd ⟨rfl, hb⟩; replace HB := hide hb; clear hb)
                  go_ret2
                  exact ⟨by rw [HV.out, HR.out]; rfl, HB.out⟩
              · have HR : Hid (numB (bytesL s) = false) := by unfold Hid numB; rw [HV.out]; exact decide_eq_false (fun h => hz2 h.2.1)
                go_wp2
                go_ret2
                exact ⟨by rw [HV.out, HR.out]; rfl, HB.out⟩
            · have HR : Hid (numB (bytesL s) = false) := by unfold Hid numB; rw [HV.out]; exact decide_eq_false (fun h => hz1 h.1)
              go_wp2
              go_ret2
              exact ⟨by rw [HV.out, HR.out]; rfl, HB.out⟩
    · have hi1 : ¬ (i : Int) < (n : Int) := by omega
      have HX : Hid (valU ((bytesL s).take 6) = x) := by
        have q := HF.out
        unfold Hid
        rw [List.take_of_length_le (by rw [bytesL_sz, hn]; omega)] at q ⊢
        exact q
      clear HF hx
      have HB := hide (Below.refl w.heap.size w)
      by_cases h0 : n = 0
      · have hem : s.toList.isEmpty = true := by rw [ByteArray.toList_eq]; have : s.data.toList.length = 0 := by simpa [h0] using HN.out
                                                 rw [List.isEmpty_iff]; exact List.length_eq_zero_iff.1 this
        have HV : Hid (valN (bytesL s) = (x : Int)) := by
          have e : bytesL s = [] := List.length_eq_zero_iff.1 (by rw [bytesL_sz, HN.out, h0])
          unfold Hid valN
          rw [e] at HX ⊢
          rw [if_neg (by simp), ← HX.out]
        clear h0
        go_upto_region 9 with fail
        generalize (x : Int) = z at *
        by_cases hz1 : -9999 ≤ z
        · by_cases hz2 : z ≤ 9999
          · have HDG := hide (fun W => Digits14 z W ⟨hz1, hz2⟩)
            have HQ := hide (cmp14 z s)
            rcases hq : decide (digs z = bytesL s) with _ | _
            · have hcm : ((strOfNums (digs z)).toList == s.toList) = false := by rw [HQ.out, hq]
              have HR : Hid (numB (bytesL s) = false) := by unfold Hid numB; rw [HV.out]; rw [decide_eq_false_iff_not] at hq; exact decide_eq_false (fun h => hq h.2.2)
              clear hq HQ
              go_wp2_with (go_at_call 38; refine (HDG.out _).mono ?_; rintro e wd ⟨rfl, hb⟩; replace HB := hide hb; clear hb)
              go_ret2
              exact ⟨by rw [HV.out, HR.out]; rfl, HB.out⟩
            · have hcm : ((strOfNums (digs z)).toList == s.toList) = true := by rw [HQ.out, hq]
              have HR : Hid (numB (bytesL s) = true) := by unfold Hid numB; rw [HV.out]; rw [decide_eq_true_iff] at hq; exact decide_eq_true ⟨hz1, hz2, hq⟩
              clear hq HQ
              go_wp2_with (go_at_call 38; refine (HDG.out _).mono ?_; rintro e wd ⟨rfl, hb⟩; replace HB := hide hb; clear hb)
              go_ret2
              exact ⟨by rw [HV.out, HR.out]; rfl, HB.out⟩
          · have HR : Hid (numB (bytesL s) = false) := by unfold Hid numB; rw [HV.out]; exact decide_eq_false (fun h => hz2 h.2.1)
            go_wp2
            go_ret2
            exact ⟨by rw [HV.out, HR.out]; rfl, HB.out⟩
        · have HR : Hid (numB (bytesL s) = false) := by unfold Hid numB; rw [HV.out]; exact decide_eq_false (fun h => hz1 h.1)
          go_wp2
          go_ret2
          exact ⟨by rw [HV.out, HR.out]; rfl, HB.out⟩
      · have hem : s.toList.isEmpty = false := by
          rw [ByteArray.toList_eq]
          rcases hh : s.data.toList with _ | ⟨a, t⟩
          · exfalso; have : s.data.toList.length = n := by simpa using HN.out
            rw [hh] at this; simp at this; omega
          · rfl
        have hz0 : 0 < s.size := by rw [HN.out]; omega
        have hn0 : (0 : Int) < (n : Int) := by omega
        have hn1 : 0 < n := by omega
        have hix : ∀ h : 0 < s.size, ((s[0]'h).toNat : Int) = byS s 0 := fun h => byS_is h
        have HHD : Hid ((bytesL s).head? = some (byS s 0)) := by
          unfold Hid
          rw [List.head?_eq_getElem?]
          exact bytesL_at hz0
        generalize byS s 0 = c0 at *
        by_cases hm : c0 = 45
        · have HV : Hid (valN (bytesL s) = -(x : Int)) := by
            unfold Hid valN
            rw [if_pos (by rw [HHD.out, hm]), ← HX.out]
          clear h0
          go_upto_region 9 with fail
          generalize -(x : Int) = z at *
          by_cases hz1 : -9999 ≤ z
          · by_cases hz2 : z ≤ 9999
            · have HDG := hide (fun W => Digits14 z W ⟨hz1, hz2⟩)
              have HQ := hide (cmp14 z s)
              rcases hq : decide (digs z = bytesL s) with _ | _
              · have hcm : ((strOfNums (digs z)).toList == s.toList) = false := by rw [HQ.out, hq]
                have HR : Hid (numB (bytesL s) = false) := by unfold Hid numB; rw [HV.out]; rw [decide_eq_false_iff_not] at hq; exact decide_eq_false (fun h => hq h.2.2)
                clear hq HQ
                go_wp2_with (go_at_call 38; refine (HDG.out _).mono ?_; rintro e wd ⟨rfl, hb⟩; replace HB := hide hb; clear hb)
                go_ret2
                exact ⟨by rw [HV.out, HR.out]; rfl, HB.out⟩
              · have hcm : ((strOfNums (digs z)).toList == s.toList) = true := by rw [HQ.out, hq]
                have HR : Hid (numB (bytesL s) = true) := by unfold Hid numB; rw [HV.out]; rw [decide_eq_true_iff] at hq; exact decide_eq_true ⟨hz1, hz2, hq⟩
                clear hq HQ
                go_wp2_with (go_at_call 38; refine (HDG.out _).mono ?_; rintro e wd ⟨rfl, hb⟩; replace HB := hide hb; clear hb)
                go_ret2
                exact ⟨by rw [HV.out, HR.out]; rfl, HB.out⟩
            · have HR : Hid (numB (bytesL s) = false) := by unfold Hid numB; rw [HV.out]; exact decide_eq_false (fun h => hz2 h.2.1)
              go_wp2
              go_ret2
              exact ⟨by rw [HV.out, HR.out]; rfl, HB.out⟩
          · have HR : Hid (numB (bytesL s) = false) := by unfold Hid numB; rw [HV.out]; exact decide_eq_false (fun h => hz1 h.1)
            go_wp2
            go_ret2
            exact ⟨by rw [HV.out, HR.out]; rfl, HB.out⟩
        · have HV : Hid (valN (bytesL s) = (x : Int)) := by
            unfold Hid valN
            rw [if_neg (by rw [HHD.out]; simpa using hm), ← HX.out]
          have hm2 : (c0 == 45) = false := by simpa using hm
          clear h0
          go_upto_region 9 with fail
          generalize (x : Int) = z at *
          by_cases hz1 : -9999 ≤ z
          · by_cases hz2 : z ≤ 9999
            · have HDG := hide (fun W => Digits14 z W ⟨hz1, hz2⟩)
              have HQ := hide (cmp14 z s)
              rcases hq : decide (digs z = bytesL s) with _ | _
              · have hcm : ((strOfNums (digs z)).toList == s.toList) = false := by rw [HQ.out, hq]
                have HR : Hid (numB (bytesL s) = false) := by unfold Hid numB; rw [HV.out]; rw [decide_eq_false_iff_not] at hq; exact decide_eq_false (fun h => hq h.2.2)
                clear hq HQ
                go_wp2_with (go_at_call 38; refine (HDG.out _).mono ?_; rintro e wd ⟨rfl, hb⟩; replace HB := hide hb; clear hb)
                go_ret2
                exact ⟨by rw [HV.out, HR.out]; rfl, HB.out⟩
              · have hcm : ((strOfNums (digs z)).toList == s.toList) = true := by rw [HQ.out, hq]
                have HR : Hid (numB (bytesL s) = true) := by unfold Hid numB; rw [HV.out]; rw [decide_eq_true_iff] at hq; exact decide_eq_true ⟨hz1, hz2, hq⟩
                clear hq HQ
                go_wp2_with (go_at_call 38; refine (HDG.out _).mono ?_; rintro e wd ⟨rfl, hb⟩; replace HB := hide hb; clear hb)
                go_ret2
                exact ⟨by rw [HV.out, HR.out]; rfl, HB.out⟩
            · have HR : Hid (numB (bytesL s) = false) := by unfold Hid numB; rw [HV.out]; exact decide_eq_false (fun h => hz2 h.2.1)
              go_wp2
              go_ret2
              exact ⟨by rw [HV.out, HR.out]; rfl, HB.out⟩
          · have HR : Hid (numB (bytesL s) = false) := by unfold Hid numB; rw [HV.out]; exact decide_eq_false (fun h => hz1 h.1)
            go_wp2
            go_ret2
            exact ⟨by rw [HV.out, HR.out]; rfl, HB.out⟩
end Go.Proofs.YtadmibfnjhockaaDoor
