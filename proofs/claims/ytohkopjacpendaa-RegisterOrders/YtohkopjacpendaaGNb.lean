/- The later one of two notes; a key looked for, registers compared, slices.Grow and slices.Concat (layer 12). -/
import Derived.Test.YtohkopjacpendaaGNa
import Derived.Test.YtohkopjacpendaaGNm
import Derived.Test.YtohkopjacpendaaKC
import Derived.Lib.AppendZeros
namespace Go.Proofs.Ytohkopjacpendaa
open Go.RowKit Go.Lib Go.Sort
set_option linter.unusedVariables false
theorem bel_put4N {w u : World} {g : Nat} (hb : Below w.heap.size w u) (hg : w.heap.size ≤ g) (a b c d : Value) : Below w.heap.size w ((((u.setCell ⟨g, 0, none⟩ a).setCell ⟨g, 1, none⟩ b).setCell ⟨g, 2, none⟩ c).setCell ⟨g, 3, none⟩ d) := (((hb.setCell (p := ⟨g, 0, none⟩) hg a).setCell (p := ⟨g, 1, none⟩) hg b).setCell (p := ⟨g, 2, none⟩) hg c).setCell (p := ⟨g, 3, none⟩) hg d
set_option maxHeartbeats 2000000 in
theorem laterOf_any (ka kb : ByteArray) (aa ab ra rb : Int) (wa wb : ByteArray) (w : World) : Calls Try.prog 28 #[.agg #[.string ka, .int .i64 aa, .int .i64 ra, .string wa], .agg #[.string kb, .int .i64 ab, .int .i64 rb, .string wb]] w fun e w' => e = .returned (vNt (some (lofN (ka, aa, ra, wa) (kb, ab, rb, wb)))) ∧ Below w.heap.size w w' := by
  rcases hl : laterN (kb, ab, rb, wb) (ka, aa, ra, wa) with _ | _
  · have HR : Hid (lofN (ka, aa, ra, wa) (kb, ab, rb, wb) = (ka, aa, ra, wa)) := by unfold Hid lofN; rw [hl]; rfl
    have HL := hide hl
    clear hl
    rw [HR.out]
    have HB0 : Hid (Below w.heap.size w (((w.alloc (.cells #[.string ka, .int .i64 aa, .int .i64 ra, .string wa] 24)).alloc (.cells #[.string kb, .int .i64 ab, .int .i64 rb, .string wb] 24)).alloc (.cells #[.string ⟨#[]⟩, .int .i64 0, .int .i64 0, .string ⟨#[]⟩] 24))) := (bel2 w _ _).alloc (by simp; omega) _
    have HX0 : Hid (BX (((w.alloc (.cells #[.string ka, .int .i64 aa, .int .i64 ra, .string wa] 24)).alloc (.cells #[.string kb, .int .i64 ab, .int .i64 rb, .string wb] 24)).alloc (.cells #[.string ⟨#[]⟩, .int .i64 0, .int .i64 0, .string ⟨#[]⟩] 24)) (w.heap.size + 1 + 1) #[.string ⟨#[]⟩, .int .i64 0, .int .i64 0, .string ⟨#[]⟩] 24) := BX.new ((w.alloc (.cells #[.string ka, .int .i64 aa, .int .i64 ra, .string wa] 24)).alloc (.cells #[.string kb, .int .i64 ab, .int .i64 rb, .string wb] 24)) _ (by simp) _ _
    have HA0 : Hid (BX (((w.alloc (.cells #[.string ka, .int .i64 aa, .int .i64 ra, .string wa] 24)).alloc (.cells #[.string kb, .int .i64 ab, .int .i64 rb, .string wb] 24)).alloc (.cells #[.string ⟨#[]⟩, .int .i64 0, .int .i64 0, .string ⟨#[]⟩] 24)) w.heap.size #[.string ka, .int .i64 aa, .int .i64 ra, .string wa] 24) := ((BX.new w _ rfl _ _).alloc _).alloc _
    have HC0 : Hid (BX (((w.alloc (.cells #[.string ka, .int .i64 aa, .int .i64 ra, .string wa] 24)).alloc (.cells #[.string kb, .int .i64 ab, .int .i64 rb, .string wb] 24)).alloc (.cells #[.string ⟨#[]⟩, .int .i64 0, .int .i64 0, .string ⟨#[]⟩] 24)) (w.heap.size + 1) #[.string kb, .int .i64 ab, .int .i64 rb, .string wb] 24) := (BX.new (w.alloc (.cells #[.string ka, .int .i64 aa, .int .i64 ra, .string wa] 24)) _ (by simp) _ _).alloc _
    go_enter Try.func28, Try.ntmps28
    go_upto_region 1 with fail
    have a0 := HA0.out.cell 0 _ rfl
    have a1 := HA0.out.cell 1 _ rfl
    have a2 := HA0.out.cell 2 _ rfl
    have a3 := HA0.out.cell 3 _ rfl
    have b0 := HC0.out.cell 0 _ rfl
    have b1 := HC0.out.cell 1 _ rfl
    have b2 := HC0.out.cell 2 _ rfl
    have b3 := HC0.out.cell 3 _ rfl
    generalize (((w.alloc (.cells #[.string ka, .int .i64 aa, .int .i64 ra, .string wa] 24)).alloc (.cells #[.string kb, .int .i64 ab, .int .i64 rb, .string wb] 24)).alloc (.cells #[.string ⟨#[]⟩, .int .i64 0, .int .i64 0, .string ⟨#[]⟩] 24)) = u at *
    go_upto_region 3 with (go_at_call 18; refine (Later12_any kb ka ab aa rb ra wb wa _).mono ?_; rintro e w1 ⟨rfl, hb⟩; rw [HL.out]; replace HB0 := hide (bel_next HB0.out hb); replace HX0 := hide (HX0.out.below hb); replace HA0 := hide (HA0.out.below hb); replace HC0 := hide (HC0.out.below hb); clear hb)
    clear a0 a1 a2 a3 b0 b1 b2 b3
    have a0 := HA0.out.cell 0 _ rfl
    have a1 := HA0.out.cell 1 _ rfl
    have a2 := HA0.out.cell 2 _ rfl
    have a3 := HA0.out.cell 3 _ rfl
    have e0 := HX0.out.cell 0 _ rfl
    have e1 := HX0.out.cell 1 _ rfl
    have e2 := HX0.out.cell 2 _ rfl
    have e3 := HX0.out.cell 3 _ rfl
    have z0 := HX0.out.free 0
    have z1 := HX0.out.free 1
    have z2 := HX0.out.free 2
    have z3 := HX0.out.free 3
    go_wp2
    refine bodyPost_ret (results_cell_row rfl _ _ _ _ _ _ _ rfl (HX0.out.put4 _ _ _ _) Try.underlying24 rfl (by kernel_rfl)) rfl ?_
    exact ⟨rfl, bel_put4N HB0.out (by omega) _ _ _ _⟩
  · have HR : Hid (lofN (ka, aa, ra, wa) (kb, ab, rb, wb) = (kb, ab, rb, wb)) := by unfold Hid lofN; rw [hl]; rfl
    have HL := hide hl
    clear hl
    rw [HR.out]
    have HB0 : Hid (Below w.heap.size w (((w.alloc (.cells #[.string ka, .int .i64 aa, .int .i64 ra, .string wa] 24)).alloc (.cells #[.string kb, .int .i64 ab, .int .i64 rb, .string wb] 24)).alloc (.cells #[.string ⟨#[]⟩, .int .i64 0, .int .i64 0, .string ⟨#[]⟩] 24))) := (bel2 w _ _).alloc (by simp; omega) _
    have HX0 : Hid (BX (((w.alloc (.cells #[.string ka, .int .i64 aa, .int .i64 ra, .string wa] 24)).alloc (.cells #[.string kb, .int .i64 ab, .int .i64 rb, .string wb] 24)).alloc (.cells #[.string ⟨#[]⟩, .int .i64 0, .int .i64 0, .string ⟨#[]⟩] 24)) (w.heap.size + 1 + 1) #[.string ⟨#[]⟩, .int .i64 0, .int .i64 0, .string ⟨#[]⟩] 24) := BX.new ((w.alloc (.cells #[.string ka, .int .i64 aa, .int .i64 ra, .string wa] 24)).alloc (.cells #[.string kb, .int .i64 ab, .int .i64 rb, .string wb] 24)) _ (by simp) _ _
    have HA0 : Hid (BX (((w.alloc (.cells #[.string ka, .int .i64 aa, .int .i64 ra, .string wa] 24)).alloc (.cells #[.string kb, .int .i64 ab, .int .i64 rb, .string wb] 24)).alloc (.cells #[.string ⟨#[]⟩, .int .i64 0, .int .i64 0, .string ⟨#[]⟩] 24)) w.heap.size #[.string ka, .int .i64 aa, .int .i64 ra, .string wa] 24) := ((BX.new w _ rfl _ _).alloc _).alloc _
    have HC0 : Hid (BX (((w.alloc (.cells #[.string ka, .int .i64 aa, .int .i64 ra, .string wa] 24)).alloc (.cells #[.string kb, .int .i64 ab, .int .i64 rb, .string wb] 24)).alloc (.cells #[.string ⟨#[]⟩, .int .i64 0, .int .i64 0, .string ⟨#[]⟩] 24)) (w.heap.size + 1) #[.string kb, .int .i64 ab, .int .i64 rb, .string wb] 24) := (BX.new (w.alloc (.cells #[.string ka, .int .i64 aa, .int .i64 ra, .string wa] 24)) _ (by simp) _ _).alloc _
    go_enter Try.func28, Try.ntmps28
    go_upto_region 1 with fail
    have a0 := HA0.out.cell 0 _ rfl
    have a1 := HA0.out.cell 1 _ rfl
    have a2 := HA0.out.cell 2 _ rfl
    have a3 := HA0.out.cell 3 _ rfl
    have b0 := HC0.out.cell 0 _ rfl
    have b1 := HC0.out.cell 1 _ rfl
    have b2 := HC0.out.cell 2 _ rfl
    have b3 := HC0.out.cell 3 _ rfl
    generalize (((w.alloc (.cells #[.string ka, .int .i64 aa, .int .i64 ra, .string wa] 24)).alloc (.cells #[.string kb, .int .i64 ab, .int .i64 rb, .string wb] 24)).alloc (.cells #[.string ⟨#[]⟩, .int .i64 0, .int .i64 0, .string ⟨#[]⟩] 24)) = u at *
    go_upto_region 2 with (go_at_call 18; refine (Later12_any kb ka ab aa rb ra wb wa _).mono ?_; rintro e w1 ⟨rfl, hb⟩; rw [HL.out]; replace HB0 := hide (bel_next HB0.out hb); replace HX0 := hide (HX0.out.below hb); replace HA0 := hide (HA0.out.below hb); replace HC0 := hide (HC0.out.below hb); clear hb)
    clear a0 a1 a2 a3 b0 b1 b2 b3
    have b0 := HC0.out.cell 0 _ rfl
    have b1 := HC0.out.cell 1 _ rfl
    have b2 := HC0.out.cell 2 _ rfl
    have b3 := HC0.out.cell 3 _ rfl
    have e0 := HX0.out.cell 0 _ rfl
    have e1 := HX0.out.cell 1 _ rfl
    have e2 := HX0.out.cell 2 _ rfl
    have e3 := HX0.out.cell 3 _ rfl
    have z0 := HX0.out.free 0
    have z1 := HX0.out.free 1
    have z2 := HX0.out.free 2
    have z3 := HX0.out.free 3
    go_wp2
    refine bodyPost_ret (results_cell_row rfl _ _ _ _ _ _ _ rfl (HX0.out.put4 _ _ _ _) Try.underlying24 rfl (by kernel_rfl)) rfl ?_
    exact ⟨rfl, bel_put4N HB0.out (by omega) _ _ _ _⟩
set_option maxHeartbeats 400000 in
theorem place1N_any (k t : ByteArray) (ta rp : Int) (wd : ByteArray) (w : World) : Calls Try.prog 22 #[.agg #[.string k, .int .i64 ta, .int .i64 rp, .string wd], .string t] w fun e w' => e = .returned (.int .i64 (cmpK k t)) ∧ Below w.heap.size w w' := by
  go_enter Try.func22, Try.ntmps22
  go_wp2_with (go_at_call 23; refine (Compare_any _ _ _).mono ?_; rintro e w' ⟨rfl, rfl⟩)
  go_ret
  exact ⟨rfl, bel1 _ _⟩
set_option maxHeartbeats 2000000 in
theorem searchN_any (a : Option Addr) (n cap : Nat) (s : List Nt) (t : ByteArray) (w : World) (hA : NN w a n s) (hS : SrtG kN s) (hn : n ≤ 4000) :
    Calls Try.prog 21 #[.slice a n cap, .string t, .func (.func 22) #[] #[]] w fun e w' => (∃ i : Nat, e = .returned (.tuple #[.int .i64 i, .bool (thereG kN s t i)]) ∧ PlaceG kN s t i) ∧ Below w.heap.size w w' := by
  have HV := hide hA
  have HLEN := hide hA.1
  have HS := hide hS
  clear hA hS
  go_enter Try.func21, Try.ntmps21
  go_wp2
  go_loopw [9, 10] (fun vi vj wr => ∃ i j : Nat, i ≤ j ∧ j ≤ n ∧ vi = .int .i64 i ∧ vj = .int .i64 j ∧ Hid (Below w.heap.size w wr) ∧ Hid (∀ q x, q < i → s[q]? = some x → ltK (kN x) t = true) ∧ Hid (∀ q x, j ≤ q → s[q]? = some x → ltK (kN x) t = false)) (fun vi vj _ => (intOf vj).toNat - (intOf vi).toNat)
  case atStart => exact ⟨0, n, by omega, by omega, rfl, rfl, Below.refl _ _, fun q x h => absurd h (Nat.not_lt_zero _), fun q x h1 h2 => by have := (List.getElem?_eq_some_iff.1 h2).1; rw [HLEN.out] at this; omega⟩
  case round =>
    obtain ⟨i, j, hij, hjn, rfl, rfl, HB, H1, H2⟩ := hrel
    by_cases hlt : i < j
    · obtain ⟨h, hh⟩ : ∃ h : Nat, h = (i + j) / 2 := ⟨_, rfl⟩
      have hih : i ≤ h := by omega
      have hhj : h < j := by omega
      have hI : ((i : Int) + (j : Int)) / 2 = (h : Int) := by omega
      have hh0 : (0 : Int) ≤ (h : Int) := by omega
      have hh1 : (h : Int) < (n : Int) := by omega
      clear hh
      obtain ⟨b, off, rfl⟩ := HV.out.addr (by omega)
      obtain ⟨k, ta, rp, wd, hx, c0, c1, c2, c3⟩ := (HV.out.below HB.out).at h (by omega)
      have HX := hide hx
      clear hx
      rcases hl : ltK k t with _ | _
      · have hc : ¬ cmpK k t < 0 := by rw [cmpK_lt, hl]; simp
        have H3 := hide (halveG_hi HS.out HX.out hl)
        clear hl
        have HCM := hide (place1N_any k t ta rp wd)
        generalize cmpK k t = z at *
        go_wp2_with (go_at_call 22; refine (HCM.out _).mono ?_; rintro e w' ⟨rfl, hb⟩)
        go_roundw
        case rel => exact ⟨i, h, hih, by omega, rfl, rfl, (show Hid _ from bel_next HB.out hb), H1, H3⟩
        case measure => simp [intOf]; omega
      · have hc : cmpK k t < 0 := by rw [cmpK_lt, hl]
        have H3 := hide (halveG_lo HS.out HX.out hl)
        clear hl
        have HCM := hide (place1N_any k t ta rp wd)
        generalize cmpK k t = z at *
        go_wp2_with (go_at_call 22; refine (HCM.out _).mono ?_; rintro e w' ⟨rfl, hb⟩)
        go_roundw
        case rel => exact ⟨h + 1, j, by omega, by omega, by go_num, rfl, (show Hid _ from bel_next HB.out hb), H3, H2⟩
        case measure => simp [intOf]; omega
    · obtain rfl : i = j := by omega
      have HP : Hid (PlaceG kN s t i) := ⟨by rw [HLEN.out]; omega, H1.out, H2.out⟩
      clear H1 H2
      by_cases hin : i < n
      · obtain ⟨b, off, rfl⟩ := HV.out.addr (by omega)
        obtain ⟨k, ta, rp, wd, hx, c0, c1, c2, c3⟩ := (HV.out.below HB.out).at i hin
        have HX : Hid (thereG kN s t i = (cmpK k t == 0)) := by
          unfold Hid thereG
          rw [hx, Bool.eq_iff_iff]
          simp [cmpK_eq]
        have hi0 : (0 : Int) ≤ (i : Int) := by omega
        have hi1 : (i : Int) < (n : Int) := by omega
        clear hx
        have HCM := hide (place1N_any k t ta rp wd)
        generalize cmpK k t = z at *
        go_wp2_with (go_at_call 22; refine (HCM.out _).mono ?_; rintro e w' ⟨rfl, hb⟩)
        go_ret2
        exact ⟨⟨i, by rw [HX.out]; rfl, HP.out⟩, bel_next HB.out hb⟩
      · have HX : Hid (thereG kN s t i = false) := by
          unfold Hid thereG
          rw [List.getElem?_eq_none (by rw [HLEN.out]; omega)]
        go_wp2
        go_ret2
        exact ⟨⟨i, by rw [HX.out]; rfl, HP.out⟩, HB.out⟩
set_option maxHeartbeats 4000000 in
theorem equalN_any (a : Option Addr) (n cap : Nat) (s : List Nt) (a' : Option Addr) (n' cap' : Nat) (s' : List Nt) (w : World) (hA : NN w a n s) (hA' : NN w a' n' s') : Calls Try.prog 26 #[.slice a n cap, .slice a' n' cap'] w fun e w' => e = .returned (.bool (decide (s = s'))) ∧ Below w.heap.size w w' := by
  have HV := hide hA
  have HV' := hide hA'
  have HLEN := hide hA.1
  have HLEN' := hide hA'.1
  have hmx := hA.2.1
  unfold maxLen at hmx
  clear hA hA'
  by_cases hnn : n = n'
  · subst hnn
    go_enter Try.func26, Try.ntmps26
    go_wp2
    go_loopw [13] (fun v wr => ∃ k : Nat, k ≤ n ∧ v = .int .i64 k ∧ Hid (s.take k = s'.take k) ∧ Hid (Below w.heap.size w wr)) (fun v _ => n - (intOf v).toNat)
    case atStart => exact ⟨0, by omega, rfl, (show _ = _ by simp), Below.refl _ _⟩
    case round =>
      obtain ⟨k0, hk, rfl, HF, HB⟩ := hrel
      by_cases hlt : k0 < n
      · obtain ⟨b, off, rfl⟩ := HV.out.addr (by omega)
        obtain ⟨b', off', rfl⟩ := HV'.out.addr (by omega)
        obtain ⟨k, ta, rp, wd, hx, c0, c1, c2, c3⟩ := (HV.out.below HB.out).at k0 hlt
        obtain ⟨k', ta', rp', wd', hx', d0, d1, d2, d3⟩ := (HV'.out.below HB.out).at k0 hlt
        have hk0 : (0 : Int) ≤ (k0 : Int) := by omega
        have hk1 : (k0 : Int) < (n : Int) := by omega
        have hq := eqK k k'
        have hp := eqK wd wd'
        have HX := hide hx
        have HX' := hide hx'
        clear hx hx'
        by_cases he : k = k'
        · rw [decide_eq_true he] at hq
          subst he
          by_cases h1 : ta = ta'
          · subst h1
            by_cases h2 : rp = rp'
            · subst h2
              by_cases h3 : wd = wd'
              · rw [decide_eq_true h3] at hp
                have HF2 : Hid (s.take (k0 + 1) = s'.take (k0 + 1)) := by unfold Hid; rw [takeG_snoc HX.out, takeG_snoc HX'.out, HF.out, h3]
                subst h3
                go_upto_region 6 with fail
                refine wp_region_held_drew (S := fun W => Below wr.heap.size wr W) (by kernel_rfl) ((Below.refl _ wr).drew) (fun hS0 => ?_)
                refine takeInH 0 16 ?v1 rfl rfl (by kernel_rfl) (by kernel_rfl) (by kernel_rfl) (fun _ _ _ h => h) (by kernel_rfl) hS0 ?hy1 ?_
                case hy1 => (intro W hW; clear hW; go_simp; try rfl)
                simp only [Act.put, List.setIfInBounds_toArray, List.set_cons_zero, List.set_cons_succ]
                refine takeInH 1 17 ?v2 rfl rfl (by kernel_rfl) (by kernel_rfl) (by kernel_rfl) (fun _ _ _ h => h) (by kernel_rfl) hS0 ?hy2 ?_
                case hy2 => (intro W hW; clear hW; go_simp; try rfl)
                simp only [Act.put, List.setIfInBounds_toArray, List.set_cons_zero, List.set_cons_succ]
                refine takeInH 2 18 ?v3 rfl rfl (by kernel_rfl) (by kernel_rfl) (by kernel_rfl) (fun _ _ _ h => h) (by kernel_rfl) hS0 ?hy3 ?_
                case hy3 => (intro W hW; clear hW; go_simp; try rfl)
                simp only [Act.put, List.setIfInBounds_toArray, List.set_cons_zero, List.set_cons_succ]
                refine takeInH 3 19 ?v4 rfl rfl (by kernel_rfl) (by kernel_rfl) (by kernel_rfl) (fun _ _ _ h => h) (by kernel_rfl) hS0 ?hy4 ?_
                case hy4 => (intro W hW; have e0 := bcell hW c0; have e1 := bcell hW c1; have e2 := bcell hW c2; have e3 := bcell hW c3; have e4 := bcell hW d0; have e5 := bcell hW d1; have e6 := bcell hW d2; have e7 := bcell hW d3; clear hW; go_simp; try rfl)
                simp only [Act.put, List.setIfInBounds_toArray, List.set_cons_zero, List.set_cons_succ]
                refine takeInH 4 20 ?v5 rfl rfl (by kernel_rfl) (by kernel_rfl) (by kernel_rfl) (fun _ _ _ h => h) (by kernel_rfl) hS0 ?hy5 ?_
                case hy5 => (intro W hW; clear hW; go_simp; try rfl)
                simp only [Act.put, List.setIfInBounds_toArray, List.set_cons_zero, List.set_cons_succ]
                refine takeInH 5 21 ?v6 rfl rfl (by kernel_rfl) (by kernel_rfl) (by kernel_rfl) (fun _ _ _ h => h) (by kernel_rfl) hS0 ?hy6 ?_
                case hy6 => (intro W hW; clear hW; go_simp; try rfl)
                simp only [Act.put, List.setIfInBounds_toArray, List.set_cons_zero, List.set_cons_succ]
                refine takeInH 6 22 ?v7 rfl rfl (by kernel_rfl) (by kernel_rfl) (by kernel_rfl) (fun _ _ _ h => h) (by kernel_rfl) hS0 ?hy7 ?_
                case hy7 => (intro W hW; clear hW; go_simp; try rfl)
                simp only [Act.put, List.setIfInBounds_toArray, List.set_cons_zero, List.set_cons_succ]
                refine takeInH 7 23 ?v8 rfl rfl (by kernel_rfl) (by kernel_rfl) (by kernel_rfl) (fun _ _ _ h => h) (by kernel_rfl) hS0 ?hy8 ?_
                case hy8 => (intro W hW; have e0 := bcell hW c0; have e1 := bcell hW c1; have e2 := bcell hW c2; have e3 := bcell hW c3; have e4 := bcell hW d0; have e5 := bcell hW d1; have e6 := bcell hW d2; have e7 := bcell hW d3; clear hW; go_simp; try rfl)
                simp only [Act.put, List.setIfInBounds_toArray, List.set_cons_zero, List.set_cons_succ]
                refine takeInH 8 24 ?v9 rfl rfl (by kernel_rfl) (by kernel_rfl) (by kernel_rfl) (fun _ _ _ h => h) (by kernel_rfl) hS0 ?hy9 ?_
                case hy9 => (intro W hW; clear hW; go_simp; try rfl)
                simp only [Act.put, List.setIfInBounds_toArray, List.set_cons_zero, List.set_cons_succ]
                refine wpAnyH_done (by kernel_rfl) ?_ _
                go_wp2
                go_roundw
                case rel => exact ⟨k0 + 1, by omega, by go_num, HF2, (show Hid _ from bel_next HB.out hS0)⟩
                case measure => simp [intOf]; omega
              · rw [decide_eq_false h3] at hp
                have HNO : Hid (decide (s = s') = false) := by
                  unfold Hid
                  rw [decide_eq_false_iff_not]
                  intro q
                  have h1 := HX.out
                  rw [q, HX'.out] at h1
                  cases h1
                  exact h3 rfl
                go_upto_region 6 with fail
                refine wp_region_held_drew (S := fun W => Below wr.heap.size wr W) (by kernel_rfl) ((Below.refl _ wr).drew) (fun hS0 => ?_)
                refine takeInH 0 16 ?v10 rfl rfl (by kernel_rfl) (by kernel_rfl) (by kernel_rfl) (fun _ _ _ h => h) (by kernel_rfl) hS0 ?hy10 ?_
                case hy10 => (intro W hW; clear hW; go_simp; try rfl)
                simp only [Act.put, List.setIfInBounds_toArray, List.set_cons_zero, List.set_cons_succ]
                refine takeInH 1 17 ?v11 rfl rfl (by kernel_rfl) (by kernel_rfl) (by kernel_rfl) (fun _ _ _ h => h) (by kernel_rfl) hS0 ?hy11 ?_
                case hy11 => (intro W hW; clear hW; go_simp; try rfl)
                simp only [Act.put, List.setIfInBounds_toArray, List.set_cons_zero, List.set_cons_succ]
                refine takeInH 2 18 ?v12 rfl rfl (by kernel_rfl) (by kernel_rfl) (by kernel_rfl) (fun _ _ _ h => h) (by kernel_rfl) hS0 ?hy12 ?_
                case hy12 => (intro W hW; clear hW; go_simp; try rfl)
                simp only [Act.put, List.setIfInBounds_toArray, List.set_cons_zero, List.set_cons_succ]
                refine takeInH 3 19 ?v13 rfl rfl (by kernel_rfl) (by kernel_rfl) (by kernel_rfl) (fun _ _ _ h => h) (by kernel_rfl) hS0 ?hy13 ?_
                case hy13 => (intro W hW; have e0 := bcell hW c0; have e1 := bcell hW c1; have e2 := bcell hW c2; have e3 := bcell hW c3; have e4 := bcell hW d0; have e5 := bcell hW d1; have e6 := bcell hW d2; have e7 := bcell hW d3; clear hW; go_simp; try rfl)
                simp only [Act.put, List.setIfInBounds_toArray, List.set_cons_zero, List.set_cons_succ]
                refine takeInH 4 20 ?v14 rfl rfl (by kernel_rfl) (by kernel_rfl) (by kernel_rfl) (fun _ _ _ h => h) (by kernel_rfl) hS0 ?hy14 ?_
                case hy14 => (intro W hW; clear hW; go_simp; try rfl)
                simp only [Act.put, List.setIfInBounds_toArray, List.set_cons_zero, List.set_cons_succ]
                refine takeInH 5 21 ?v15 rfl rfl (by kernel_rfl) (by kernel_rfl) (by kernel_rfl) (fun _ _ _ h => h) (by kernel_rfl) hS0 ?hy15 ?_
                case hy15 => (intro W hW; clear hW; go_simp; try rfl)
                simp only [Act.put, List.setIfInBounds_toArray, List.set_cons_zero, List.set_cons_succ]
                refine takeInH 6 22 ?v16 rfl rfl (by kernel_rfl) (by kernel_rfl) (by kernel_rfl) (fun _ _ _ h => h) (by kernel_rfl) hS0 ?hy16 ?_
                case hy16 => (intro W hW; clear hW; go_simp; try rfl)
                simp only [Act.put, List.setIfInBounds_toArray, List.set_cons_zero, List.set_cons_succ]
                refine takeInH 7 23 ?v17 rfl rfl (by kernel_rfl) (by kernel_rfl) (by kernel_rfl) (fun _ _ _ h => h) (by kernel_rfl) hS0 ?hy17 ?_
                case hy17 => (intro W hW; have e0 := bcell hW c0; have e1 := bcell hW c1; have e2 := bcell hW c2; have e3 := bcell hW c3; have e4 := bcell hW d0; have e5 := bcell hW d1; have e6 := bcell hW d2; have e7 := bcell hW d3; clear hW; go_simp; try rfl)
                simp only [Act.put, List.setIfInBounds_toArray, List.set_cons_zero, List.set_cons_succ]
                refine takeInH 8 24 ?v18 rfl rfl (by kernel_rfl) (by kernel_rfl) (by kernel_rfl) (fun _ _ _ h => h) (by kernel_rfl) hS0 ?hy18 ?_
                case hy18 => (intro W hW; clear hW; go_simp; try rfl)
                simp only [Act.put, List.setIfInBounds_toArray, List.set_cons_zero, List.set_cons_succ]
                refine wpAnyH_done (by kernel_rfl) ?_ _
                go_wp2
                go_ret
                exact ⟨by rw [HNO.out]; rfl, bel_next HB.out hS0⟩
            · have e2 : (rp == rp') = false := by rw [beq_eq_false_iff_ne]; exact h2
              have HNO : Hid (decide (s = s') = false) := by
                unfold Hid
                rw [decide_eq_false_iff_not]
                intro q
                have h1 := HX.out
                rw [q, HX'.out] at h1
                cases h1
                exact h2 rfl
              go_upto_region 6 with fail
              refine wp_region_held_drew (S := fun W => Below wr.heap.size wr W) (by kernel_rfl) ((Below.refl _ wr).drew) (fun hS0 => ?_)
              refine takeInH 0 16 ?v19 rfl rfl (by kernel_rfl) (by kernel_rfl) (by kernel_rfl) (fun _ _ _ h => h) (by kernel_rfl) hS0 ?hy19 ?_
              case hy19 => (intro W hW; clear hW; go_simp; try rfl)
              simp only [Act.put, List.setIfInBounds_toArray, List.set_cons_zero, List.set_cons_succ]
              refine takeInH 1 17 ?v20 rfl rfl (by kernel_rfl) (by kernel_rfl) (by kernel_rfl) (fun _ _ _ h => h) (by kernel_rfl) hS0 ?hy20 ?_
              case hy20 => (intro W hW; clear hW; go_simp; try rfl)
              simp only [Act.put, List.setIfInBounds_toArray, List.set_cons_zero, List.set_cons_succ]
              refine takeInH 2 18 ?v21 rfl rfl (by kernel_rfl) (by kernel_rfl) (by kernel_rfl) (fun _ _ _ h => h) (by kernel_rfl) hS0 ?hy21 ?_
              case hy21 => (intro W hW; clear hW; go_simp; try rfl)
              simp only [Act.put, List.setIfInBounds_toArray, List.set_cons_zero, List.set_cons_succ]
              refine takeInH 3 19 ?v22 rfl rfl (by kernel_rfl) (by kernel_rfl) (by kernel_rfl) (fun _ _ _ h => h) (by kernel_rfl) hS0 ?hy22 ?_
              case hy22 => (intro W hW; have e0 := bcell hW c0; have e1 := bcell hW c1; have e2 := bcell hW c2; have e3 := bcell hW c3; have e4 := bcell hW d0; have e5 := bcell hW d1; have e6 := bcell hW d2; have e7 := bcell hW d3; clear hW; go_simp; try rfl)
              simp only [Act.put, List.setIfInBounds_toArray, List.set_cons_zero, List.set_cons_succ]
              refine takeInH 4 20 ?v23 rfl rfl (by kernel_rfl) (by kernel_rfl) (by kernel_rfl) (fun _ _ _ h => h) (by kernel_rfl) hS0 ?hy23 ?_
              case hy23 => (intro W hW; clear hW; go_simp; try rfl)
              simp only [Act.put, List.setIfInBounds_toArray, List.set_cons_zero, List.set_cons_succ]
              refine takeInH 5 21 ?v24 rfl rfl (by kernel_rfl) (by kernel_rfl) (by kernel_rfl) (fun _ _ _ h => h) (by kernel_rfl) hS0 ?hy24 ?_
              case hy24 => (intro W hW; clear hW; go_simp; try rfl)
              simp only [Act.put, List.setIfInBounds_toArray, List.set_cons_zero, List.set_cons_succ]
              refine takeInH 6 22 ?v25 rfl rfl (by kernel_rfl) (by kernel_rfl) (by kernel_rfl) (fun _ _ _ h => h) (by kernel_rfl) hS0 ?hy25 ?_
              case hy25 => (intro W hW; clear hW; go_simp; try rfl)
              simp only [Act.put, List.setIfInBounds_toArray, List.set_cons_zero, List.set_cons_succ]
              refine takeInH 7 23 ?v26 rfl rfl (by kernel_rfl) (by kernel_rfl) (by kernel_rfl) (fun _ _ _ h => h) (by kernel_rfl) hS0 ?hy26 ?_
              case hy26 => (intro W hW; have e0 := bcell hW c0; have e1 := bcell hW c1; have e2 := bcell hW c2; have e3 := bcell hW c3; have e4 := bcell hW d0; have e5 := bcell hW d1; have e6 := bcell hW d2; have e7 := bcell hW d3; clear hW; go_simp; try rfl)
              simp only [Act.put, List.setIfInBounds_toArray, List.set_cons_zero, List.set_cons_succ]
              refine takeInH 8 24 ?v27 rfl rfl (by kernel_rfl) (by kernel_rfl) (by kernel_rfl) (fun _ _ _ h => h) (by kernel_rfl) hS0 ?hy27 ?_
              case hy27 => (intro W hW; clear hW; go_simp; try rfl)
              simp only [Act.put, List.setIfInBounds_toArray, List.set_cons_zero, List.set_cons_succ]
              refine wpAnyH_done (by kernel_rfl) ?_ _
              go_wp2
              go_ret
              exact ⟨by rw [HNO.out]; rfl, bel_next HB.out hS0⟩
          · have e2 : (ta == ta') = false := by rw [beq_eq_false_iff_ne]; exact h1
            have HNO : Hid (decide (s = s') = false) := by
              unfold Hid
              rw [decide_eq_false_iff_not]
              intro q
              have h1 := HX.out
              rw [q, HX'.out] at h1
              cases h1
              exact h1 rfl
            go_upto_region 6 with fail
            refine wp_region_held_drew (S := fun W => Below wr.heap.size wr W) (by kernel_rfl) ((Below.refl _ wr).drew) (fun hS0 => ?_)
            refine takeInH 0 16 ?v28 rfl rfl (by kernel_rfl) (by kernel_rfl) (by kernel_rfl) (fun _ _ _ h => h) (by kernel_rfl) hS0 ?hy28 ?_
            case hy28 => (intro W hW; clear hW; go_simp; try rfl)
            simp only [Act.put, List.setIfInBounds_toArray, List.set_cons_zero, List.set_cons_succ]
            refine takeInH 1 17 ?v29 rfl rfl (by kernel_rfl) (by kernel_rfl) (by kernel_rfl) (fun _ _ _ h => h) (by kernel_rfl) hS0 ?hy29 ?_
            case hy29 => (intro W hW; clear hW; go_simp; try rfl)
            simp only [Act.put, List.setIfInBounds_toArray, List.set_cons_zero, List.set_cons_succ]
            refine takeInH 2 18 ?v30 rfl rfl (by kernel_rfl) (by kernel_rfl) (by kernel_rfl) (fun _ _ _ h => h) (by kernel_rfl) hS0 ?hy30 ?_
            case hy30 => (intro W hW; clear hW; go_simp; try rfl)
            simp only [Act.put, List.setIfInBounds_toArray, List.set_cons_zero, List.set_cons_succ]
            refine takeInH 3 19 ?v31 rfl rfl (by kernel_rfl) (by kernel_rfl) (by kernel_rfl) (fun _ _ _ h => h) (by kernel_rfl) hS0 ?hy31 ?_
            case hy31 => (intro W hW; have e0 := bcell hW c0; have e1 := bcell hW c1; have e2 := bcell hW c2; have e3 := bcell hW c3; have e4 := bcell hW d0; have e5 := bcell hW d1; have e6 := bcell hW d2; have e7 := bcell hW d3; clear hW; go_simp; try rfl)
            simp only [Act.put, List.setIfInBounds_toArray, List.set_cons_zero, List.set_cons_succ]
            refine takeInH 4 20 ?v32 rfl rfl (by kernel_rfl) (by kernel_rfl) (by kernel_rfl) (fun _ _ _ h => h) (by kernel_rfl) hS0 ?hy32 ?_
            case hy32 => (intro W hW; clear hW; go_simp; try rfl)
            simp only [Act.put, List.setIfInBounds_toArray, List.set_cons_zero, List.set_cons_succ]
            refine takeInH 5 21 ?v33 rfl rfl (by kernel_rfl) (by kernel_rfl) (by kernel_rfl) (fun _ _ _ h => h) (by kernel_rfl) hS0 ?hy33 ?_
            case hy33 => (intro W hW; clear hW; go_simp; try rfl)
            simp only [Act.put, List.setIfInBounds_toArray, List.set_cons_zero, List.set_cons_succ]
            refine takeInH 6 22 ?v34 rfl rfl (by kernel_rfl) (by kernel_rfl) (by kernel_rfl) (fun _ _ _ h => h) (by kernel_rfl) hS0 ?hy34 ?_
            case hy34 => (intro W hW; clear hW; go_simp; try rfl)
            simp only [Act.put, List.setIfInBounds_toArray, List.set_cons_zero, List.set_cons_succ]
            refine takeInH 7 23 ?v35 rfl rfl (by kernel_rfl) (by kernel_rfl) (by kernel_rfl) (fun _ _ _ h => h) (by kernel_rfl) hS0 ?hy35 ?_
            case hy35 => (intro W hW; have e0 := bcell hW c0; have e1 := bcell hW c1; have e2 := bcell hW c2; have e3 := bcell hW c3; have e4 := bcell hW d0; have e5 := bcell hW d1; have e6 := bcell hW d2; have e7 := bcell hW d3; clear hW; go_simp; try rfl)
            simp only [Act.put, List.setIfInBounds_toArray, List.set_cons_zero, List.set_cons_succ]
            refine takeInH 8 24 ?v36 rfl rfl (by kernel_rfl) (by kernel_rfl) (by kernel_rfl) (fun _ _ _ h => h) (by kernel_rfl) hS0 ?hy36 ?_
            case hy36 => (intro W hW; clear hW; go_simp; try rfl)
            simp only [Act.put, List.setIfInBounds_toArray, List.set_cons_zero, List.set_cons_succ]
            refine wpAnyH_done (by kernel_rfl) ?_ _
            go_wp2
            go_ret
            exact ⟨by rw [HNO.out]; rfl, bel_next HB.out hS0⟩
        · rw [decide_eq_false he] at hq
          have HNO : Hid (decide (s = s') = false) := by
            unfold Hid
            rw [decide_eq_false_iff_not]
            intro q
            have h1 := HX.out
            rw [q, HX'.out] at h1
            cases h1
            exact he rfl
          go_upto_region 6 with fail
          refine wp_region_held_drew (S := fun W => Below wr.heap.size wr W) (by kernel_rfl) ((Below.refl _ wr).drew) (fun hS0 => ?_)
          refine takeInH 0 16 ?v37 rfl rfl (by kernel_rfl) (by kernel_rfl) (by kernel_rfl) (fun _ _ _ h => h) (by kernel_rfl) hS0 ?hy37 ?_
          case hy37 => (intro W hW; clear hW; go_simp; try rfl)
          simp only [Act.put, List.setIfInBounds_toArray, List.set_cons_zero, List.set_cons_succ]
          refine takeInH 1 17 ?v38 rfl rfl (by kernel_rfl) (by kernel_rfl) (by kernel_rfl) (fun _ _ _ h => h) (by kernel_rfl) hS0 ?hy38 ?_
          case hy38 => (intro W hW; clear hW; go_simp; try rfl)
          simp only [Act.put, List.setIfInBounds_toArray, List.set_cons_zero, List.set_cons_succ]
          refine takeInH 2 18 ?v39 rfl rfl (by kernel_rfl) (by kernel_rfl) (by kernel_rfl) (fun _ _ _ h => h) (by kernel_rfl) hS0 ?hy39 ?_
          case hy39 => (intro W hW; clear hW; go_simp; try rfl)
          simp only [Act.put, List.setIfInBounds_toArray, List.set_cons_zero, List.set_cons_succ]
          refine takeInH 3 19 ?v40 rfl rfl (by kernel_rfl) (by kernel_rfl) (by kernel_rfl) (fun _ _ _ h => h) (by kernel_rfl) hS0 ?hy40 ?_
          case hy40 => (intro W hW; have e0 := bcell hW c0; have e1 := bcell hW c1; have e2 := bcell hW c2; have e3 := bcell hW c3; have e4 := bcell hW d0; have e5 := bcell hW d1; have e6 := bcell hW d2; have e7 := bcell hW d3; clear hW; go_simp; try rfl)
          simp only [Act.put, List.setIfInBounds_toArray, List.set_cons_zero, List.set_cons_succ]
          refine takeInH 4 20 ?v41 rfl rfl (by kernel_rfl) (by kernel_rfl) (by kernel_rfl) (fun _ _ _ h => h) (by kernel_rfl) hS0 ?hy41 ?_
          case hy41 => (intro W hW; clear hW; go_simp; try rfl)
          simp only [Act.put, List.setIfInBounds_toArray, List.set_cons_zero, List.set_cons_succ]
          refine takeInH 5 21 ?v42 rfl rfl (by kernel_rfl) (by kernel_rfl) (by kernel_rfl) (fun _ _ _ h => h) (by kernel_rfl) hS0 ?hy42 ?_
          case hy42 => (intro W hW; clear hW; go_simp; try rfl)
          simp only [Act.put, List.setIfInBounds_toArray, List.set_cons_zero, List.set_cons_succ]
          refine takeInH 6 22 ?v43 rfl rfl (by kernel_rfl) (by kernel_rfl) (by kernel_rfl) (fun _ _ _ h => h) (by kernel_rfl) hS0 ?hy43 ?_
          case hy43 => (intro W hW; clear hW; go_simp; try rfl)
          simp only [Act.put, List.setIfInBounds_toArray, List.set_cons_zero, List.set_cons_succ]
          refine takeInH 7 23 ?v44 rfl rfl (by kernel_rfl) (by kernel_rfl) (by kernel_rfl) (fun _ _ _ h => h) (by kernel_rfl) hS0 ?hy44 ?_
          case hy44 => (intro W hW; have e0 := bcell hW c0; have e1 := bcell hW c1; have e2 := bcell hW c2; have e3 := bcell hW c3; have e4 := bcell hW d0; have e5 := bcell hW d1; have e6 := bcell hW d2; have e7 := bcell hW d3; clear hW; go_simp; try rfl)
          simp only [Act.put, List.setIfInBounds_toArray, List.set_cons_zero, List.set_cons_succ]
          refine takeInH 8 24 ?v45 rfl rfl (by kernel_rfl) (by kernel_rfl) (by kernel_rfl) (fun _ _ _ h => h) (by kernel_rfl) hS0 ?hy45 ?_
          case hy45 => (intro W hW; clear hW; go_simp; try rfl)
          simp only [Act.put, List.setIfInBounds_toArray, List.set_cons_zero, List.set_cons_succ]
          refine wpAnyH_done (by kernel_rfl) ?_ _
          go_wp2
          go_ret
          exact ⟨by rw [HNO.out]; rfl, bel_next HB.out hS0⟩
      · obtain rfl : k0 = n := by omega
        have HR : Hid (s = s') := by
          have := HF.out
          rwa [List.take_of_length_le (by rw [HLEN.out]; exact Nat.le_refl _), List.take_of_length_le (by rw [HLEN'.out]; exact Nat.le_refl _)] at this
        clear HF
        go_wp2
        go_ret
        exact ⟨by rw [decide_eq_true HR.out]; rfl, HB.out⟩
  · have HNO : Hid (decide (s = s') = false) := by
      unfold Hid
      rw [decide_eq_false_iff_not]
      intro q
      have := HLEN.out
      rw [q, HLEN'.out] at this
      exact hnn this.symm
    have hnz : ¬ (n : Int) = (n' : Int) := by omega
    have hnb : ((n : Int) == (n' : Int)) = false := by rw [beq_eq_false_iff_ne]; exact hnz
    go_enter Try.func26, Try.ntmps26
    go_wp2
    go_ret
    exact ⟨by rw [HNO.out]; rfl, Below.refl _ _⟩
set_option maxHeartbeats 1000000 in
theorem growN_any (n : Nat) (w : World) (hn : n ≤ 100000) : Calls Try.prog 31 #[.slice none 0 0, .int .i64 n] w fun e w' => ∃ v, e = .returned v ∧ OwnR encN 4 24 w.heap.size w' v [] ∧ Below w.heap.size w w' := by
  obtain ⟨i0, hi, hz0, hz1, hz2⟩ := info_parts Try.infoNot
  rcases Nat.eq_zero_or_pos n with h0 | hp
  · subst h0
    clear hi hz0 hz1 hz2 hn
    go_enter Try.func31, Try.ntmps31
    go_wp2
    go_ret
    exact ⟨_, rfl, OwnR.nil _ _, Below.refl _ _⟩
  · obtain ⟨G, hG⟩ : ∃ G, G = grownCap w n 0 24 := ⟨_, rfl⟩
    obtain ⟨R, hR⟩ : ∃ R : Array Value, R = Builtin.zeroCells (Value.agg #[.string ⟨#[]⟩, .int .i64 0, .int .i64 0, .string ⟨#[]⟩]).cells n ++ Builtin.zeroCells (Value.agg #[.string ⟨#[]⟩, .int .i64 0, .int .i64 0, .string ⟨#[]⟩]).cells (G - n) := ⟨_, rfl⟩
    have hg1 : n ≤ G := by rw [hG]; exact grownCap_ge w n 0 24
    have hg2 : G ≤ maxLen := by rw [hG]; exact grownCap_le_maxLen w n 0 24 (by unfold maxLen; omega)
    have hRs : R.size = G * 4 := by rw [hR]; simp [Builtin.zeroCells, Value.cells]; omega
    have hr : ∀ ty, (Builtin.append_ #[22, 3] ty #[.slice none 0 0, .int .i64 (n : Int)]).run Try.prog w = .ok (.slice (some ⟨w.heap.size, 0, none⟩) n G) (w.drew.alloc (.cells R 24)) := fun ty => by
      rw [hR, hG]
      exact Lib.run_append_nil_zeros w _ _ ty _ i0 _ .i64 .i64 Try.underlying22 Try.underlying3 hi hz0 n hp (by rw [hz1]; decide) (by omega) (by rw [hz2]; omega)
    have HR := hide hr
    have h1 : ¬ ((n : Int) < 0) := by omega
    have h2 : (0 : Int) < (n : Int) := by omega
    have hwn := wrapT (show n ≤ 9223372036854775807 by omega)
    have HO : Hid (OwnR encN 4 24 w.heap.size (w.drew.alloc (.cells R 24)) (.slice (some ⟨w.heap.size, 0, none⟩) 0 G) []) := World.ownsRow_made w.drew R G (Nat.le_refl _) hg2 hRs
    have HB : Hid (Below w.heap.size w (w.drew.alloc (.cells R 24))) := ((Below.refl _ w).drew).alloc (Nat.le_refl _) _
    have hg0 : (0 : Int) ≤ (G : Int) := by omega
    clear hr hi hz0 hz1 hz2 hn hR hRs hg2 hG
    go_enter Try.func31, Try.ntmps31
    go_wp2_with (at_builtin; refine Lib.wpList_append_run _ rfl _ _ _ _ rfl _ _ rfl rfl _ _ (HR.out _) ?_; refine Stop.at ?_)
    unfold Stop
    go_wp2
    go_ret
    exact ⟨_, rfl, HO.out, HB.out⟩
set_option maxHeartbeats 2000000 in
theorem concatN_any (G : Nat) (p1 p2 p3 : Option Addr) (n1 c1 n2 c2 n3 c3 : Nat) (l1 l2 l3 : List Nt) (w : World) (e0 : w.cell? ⟨G, 0, none⟩ = some (.slice p1 n1 c1)) (e1 : w.cell? ⟨G, 1, none⟩ = some (.slice p2 n2 c2)) (e2 : w.cell? ⟨G, 2, none⟩ = some (.slice p3 n3 c3))
    (h1 : NN w p1 n1 l1) (h2 : NN w p2 n2 l2) (h3 : NN w p3 n3 l3) (k1 : p1 = none → c1 = 0) (k2 : p2 = none → c2 = 0) (k3 : p3 = none → c3 = 0) (hn : n1 + n2 + n3 ≤ 100000) :
    Calls Try.prog 29 #[.slice (some ⟨G, 0, none⟩) 3 3] w fun e w' => ∃ v, e = .returned v ∧ OwnR encN 4 24 w.heap.size w' v (l1 ++ l2 ++ l3) ∧ Below w.heap.size w w' := by
  have HG := hide (growN_any (n1 + n2 + n3) w hn)
  have H1 := hide h1
  have H2 := hide h2
  have H3 := hide h3
  have K1 := hide k1
  have K2 := hide k2
  have K3 := hide k3
  have HL : Hid (l1.length = n1 ∧ l2.length = n2 ∧ l3.length = n3) := ⟨h1.1, h2.1, h3.1⟩
  have hw0 := wrapT (show n1 ≤ 9223372036854775807 by omega)
  have hw1 := wrapT (show n1 + n2 ≤ 9223372036854775807 by omega)
  have hw2 := wrapT (show n1 + n2 + n3 ≤ 9223372036854775807 by omega)
  have hp1 : ((n1 : Int) + (n2 : Int)) = ((n1 + n2 : Nat) : Int) := by omega
  have hp2 : (((n1 + n2 : Nat) : Int) + (n3 : Int)) = ((n1 + n2 + n3 : Nat) : Int) := by omega
  have hq1 : ¬ (((n1 + n2 : Nat) : Int) < 0) := by omega
  have hq2 : ¬ (((n1 + n2 + n3 : Nat) : Int) < 0) := by omega
  clear h1 h2 h3 k1 k2 k3
  generalize n1 + n2 + n3 = n123 at *
  generalize n1 + n2 = n12 at *
  go_enter Try.func29, Try.ntmps29
  go_wp2
  refine wp_loop_rounds 4 ?_
  rw [rounds_succ]
  go_wp2
  rw [rounds_succ]
  go_wp2
  rw [rounds_succ]
  go_wp2
  rw [rounds_succ]
  go_wp2_with (go_at_call 31; refine Stop.at ?_)
  unfold Stop
  refine HG.out.mono ?_
  rintro e u ⟨v, rfl, hO, hB⟩
  have HO := hide hO
  have HB := hide hB
  have d0 := bcell hB e0
  have HE1 := hide e1
  have HE2 := hide e2
  clear hO hB HG e0 e1 e2
  go_wp2
  refine wp_loop_rounds 4 ?_
  rw [rounds_succ]
  go_wp2_with (at_builtin; refine Stop.at ?_)
  unfold Stop
  refine append_rows rfl _ _ 22 rfl Try.underlying22 Try.infoNot rfl (by decide) (by decide) encN_len encN_one w.heap.size _ [] l1 rfl HO.out p1 n1 c1 rfl K1.out (H1.out.below HB.out) (by have := HL.out; rw [List.length_nil]; omega) HB.out.size ?_
  intro v2 u2 hO2 hg2 hB2
  have HO2 := hide hO2
  have HB2 := hide (hB2 _ HB.out)
  have d1 := bcell HB2.out HE1.out
  clear hO2 hB2 hg2 HO d0
  rw [List.nil_append] at HO2
  go_wp2
  rw [rounds_succ]
  go_wp2_with (at_builtin; refine Stop.at ?_)
  unfold Stop
  refine append_rows rfl _ _ 22 rfl Try.underlying22 Try.infoNot rfl (by decide) (by decide) encN_len encN_one w.heap.size _ l1 l2 rfl HO2.out p2 n2 c2 rfl K2.out (H2.out.below HB2.out) (by have := HL.out; omega) HB2.out.size ?_
  intro v3 u3 hO3 hg3 hB3
  have HO3 := hide hO3
  have HB3 := hide (hB3 _ HB2.out)
  have d2 := bcell HB3.out HE2.out
  clear hO3 hB3 hg3 HO2 d1
  go_wp2
  rw [rounds_succ]
  go_wp2_with (at_builtin; refine Stop.at ?_)
  unfold Stop
  refine append_rows rfl _ _ 22 rfl Try.underlying22 Try.infoNot rfl (by decide) (by decide) encN_len encN_one w.heap.size _ (l1 ++ l2) l3 rfl HO3.out p3 n3 c3 rfl K3.out (H3.out.below HB3.out) (by have := HL.out; rw [List.length_append]; omega) HB3.out.size ?_
  intro v4 u4 hO4 hg4 hB4
  have HO4 := hide hO4
  have HB4 := hide (hB4 _ HB3.out)
  clear hO4 hB4 hg4 HO3 d2
  go_wp2
  rw [rounds_succ]
  go_wp2
  go_ret
  exact ⟨_, rfl, HO4.out, HB4.out⟩
end Go.Proofs.Ytohkopjacpendaa
