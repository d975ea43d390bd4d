/- The document's Set and Same of layer 10. -/
import Derived.Test.YtmleajocdooihaaGT1
namespace Go.Proofs.Ytmleajocdooihaa
open Go.RowKit Go.Lib
set_option linter.unusedVariables false
theorem Try.infoCel : (Try.prog.info? 36).map (fun i => (i.zero, i.size, i.bytes)) = some (some (.agg #[.string ⟨#[]⟩, .int .i64 0]), 2, 24) := by kernel_rfl
theorem drop_cons {α : Type} {s : List α} {k : Nat} {x : α} (h : s[k]? = some x) : s.drop k = x :: s.drop (k + 1) := by
  obtain ⟨hk, rfl⟩ := List.getElem?_eq_some_iff.1 h
  exact List.drop_eq_getElem_cons hk
theorem goT_is {s : List Ce} (hs : SrtG kC s) (t : ByteArray) (m : Int) : goG kC t (t, m) s [] (decide (m = 0)) = setT s t m := by
  unfold setT celT
  by_cases h : m = 0
  · rw [decide_eq_true h, if_pos h, goG_none hs]
  · rw [decide_eq_false h, if_neg h, goG_some hs]
set_option maxHeartbeats 8000000 in
theorem Set10_ref (a : Option Addr) (n cap : Nat) (s : List Ce) (t : ByteArray) (m : Int) (w : World) (hA : TS w a n s) (hS : SrtG kC s) (hn : n ≤ 100000) : Calls Try.prog 15 #[.slice a n cap, .string t, .int .i64 m] w fun e w' => ∃ p cp, e = .returned (.slice p (setT s t m).length cp) ∧ TS w' p (setT s t m).length (setT s t m) ∧ CP p (setT s t m).length cp ∧ Below w.heap.size w w' := by
  have HV := hide hA
  have HLEN := hide hA.1
  rw [← goT_is hS t m]
  clear hA hS
  obtain ⟨Fin, hFin⟩ : ∃ x, x = goG kC t (t, m) s [] (decide (m = 0)) := ⟨_, rfl⟩
  rw [← hFin]
  have HG0 : Hid (goG kC t (t, m) (s.drop 0) [] (decide (m = 0)) = Fin) := hFin.symm
  clear hFin
  have HO0 : Hid (OwnR encC 2 36 w.heap.size (w.alloc (.cells #[] 36)) (.slice (some ⟨w.heap.size, 0, none⟩) 0 0) []) := OwnR.made w w.heap.size w.heap.size rfl (Nat.le_refl _)
  have HB0 := hide (bel1 w (.cells #[] 36))
  obtain ⟨d0, hd0⟩ : ∃ b, decide (m = 0) = b := ⟨_, rfl⟩
  rw [hd0] at HG0
  have hd1 : (m == 0) = d0 := by rw [← hd0]; rfl
  clear hd0
  go_enter Try.func15, Try.ntmps15
  go_wp2
  go_loopw [7, 8, 9] (fun V vd v wr => ∃ (k : Nat) (d : Bool) (out : List Ce), k ≤ n ∧ v = .int .i64 k ∧ vd = .bool d ∧ Hid (OwnR encC 2 36 w.heap.size wr V out) ∧ Hid (goG kC t (t, m) (s.drop k) out d = Fin) ∧ Hid (out.length ≤ 2 * k) ∧ Hid (Below w.heap.size w wr)) (fun _ _ v _ => n - (intOf v).toNat)
  case atStart => exact ⟨0, d0, [], by omega, rfl, rfl, HO0, HG0, (show _ ≤ _ by simp), HB0⟩
  case round =>
    clear HO0 HG0 HB0 hd1
    obtain ⟨k0, d, out, hk, rfl, rfl, HO, HG, HOL, HB⟩ := hrel
    by_cases hlt : k0 < n
    · obtain ⟨b, off, rfl⟩ := HV.out.addr (by omega)
      obtain ⟨k, m0, hx, q0, q1⟩ := HV.out.at k0 hlt
      have C0 := hide q0
      have C1 := hide q1
      have HX := hide hx
      have c0 := bcell HB.out q0
      have c1 := bcell HB.out q1
      have hk0 : (0 : Int) ≤ (k0 : Int) := by omega
      have hk1 : (k0 : Int) < (n : Int) := by omega
      have hq := eqK k t
      clear hx q0 q1
      cases d
      · rcases hl : Op.bytesLess k.toList t.toList with _ | _
        · by_cases he : k = t
          · rw [decide_eq_true he] at hq
            have HG2 : Hid (goG kC t (t, m) (s.drop (k0 + 1)) (out ++ [(t, m)]) true = Fin) := by
              unfold Hid
              rw [← HG.out, drop_cons HX.out, goG]
              simp only [show ltK (kC (k, m0)) t = false from hl, if_pos (show kC (k, m0) = t from he)]
              rfl
            have HOL2 : Hid (((out ++ [(t, m)])).length ≤ 2 * (k0 + 1)) := by have h9 := HOL.out; unfold Hid; first | omega | (simp; omega)
            clear he
            go_wp2_with (at_builtin; refine Stop.at ?_)
            unfold Stop
            have BQ1 := hide (bel1 wr (.cells #[.string t, .int .i64 m] 36))
            refine append_rows rfl _ _ 22 rfl Try.underlying22 Try.infoCel rfl (by decide) (by decide) encC_len encC_one w.heap.size _ out [(t, m)] rfl (HO.out.below BQ1.out) (some ⟨wr.heap.size, 0, none⟩) 1 1 rfl (fun h => by cases h) (RS.new encC_len wr _ rfl [(t, m)] _ (by simp [encC]) _ _ 1 rfl (by decide)) (by have h9 := HOL.out; simp at h9 ⊢; omega) (Nat.le_trans HB.out.size BQ1.out.size) ?_
            intro v1 w1 ho1 hg1 hbel1
            have HO1 := hide ho1
            have HB1 := hide (hbel1 _ (bel_next HB.out BQ1.out))
            clear ho1 hg1 hbel1 BQ1
            replace HO := HO1
            replace HB := HB1
            clear HO1 HB1
            replace c0 := bcell HB.out C0.out
            replace c1 := bcell HB.out C1.out
            go_wp2
            go_roundw
            case rel => exact ⟨k0 + 1, true, (out ++ [(t, m)]), by omega, by go_num, rfl, HO, HG2, HOL2, HB⟩
            case measure => simp [intOf]; omega
          · rw [decide_eq_false he] at hq
            have HG2 : Hid (goG kC t (t, m) (s.drop (k0 + 1)) ((out ++ [(t, m)]) ++ [(k, m0)]) true = Fin) := by
              unfold Hid
              rw [← HG.out, drop_cons HX.out, goG]
              simp only [show ltK (kC (k, m0)) t = false from hl, if_neg (show ¬ kC (k, m0) = t from he)]
              rfl
            have HOL2 : Hid ((((out ++ [(t, m)]) ++ [(k, m0)])).length ≤ 2 * (k0 + 1)) := by have h9 := HOL.out; unfold Hid; first | omega | (simp; omega)
            clear he
            go_wp2_with (at_builtin; refine Stop.at ?_)
            unfold Stop
            have BQ1 := hide (bel1 wr (.cells #[.string t, .int .i64 m] 36))
            refine append_rows rfl _ _ 22 rfl Try.underlying22 Try.infoCel rfl (by decide) (by decide) encC_len encC_one w.heap.size _ out [(t, m)] rfl (HO.out.below BQ1.out) (some ⟨wr.heap.size, 0, none⟩) 1 1 rfl (fun h => by cases h) (RS.new encC_len wr _ rfl [(t, m)] _ (by simp [encC]) _ _ 1 rfl (by decide)) (by have h9 := HOL.out; simp at h9 ⊢; omega) (Nat.le_trans HB.out.size BQ1.out.size) ?_
            intro v1 w1 ho1 hg1 hbel1
            have HO1 := hide ho1
            have HB1 := hide (hbel1 _ (bel_next HB.out BQ1.out))
            clear ho1 hg1 hbel1 BQ1
            replace HO := HO1
            replace HB := HB1
            clear HO1 HB1
            replace c0 := bcell HB.out C0.out
            replace c1 := bcell HB.out C1.out
            replace HOL : Hid ((out ++ [(t, m)]).length ≤ 2 * k0 + 1) := by have h9 := HOL.out; unfold Hid; simp; omega
            go_wp2_with (at_builtin; refine Stop.at ?_)
            unfold Stop
            have BQ2 := hide (bel1 w1 (.cells #[.string k, .int .i64 m0] 36))
            refine append_rows rfl _ _ 22 rfl Try.underlying22 Try.infoCel rfl (by decide) (by decide) encC_len encC_one w.heap.size _ (out ++ [(t, m)]) [(k, m0)] rfl (HO.out.below BQ2.out) (some ⟨w1.heap.size, 0, none⟩) 1 1 rfl (fun h => by cases h) (RS.new encC_len w1 _ rfl [(k, m0)] _ (by simp [encC]) _ _ 1 rfl (by decide)) (by have h9 := HOL.out; simp at h9 ⊢; omega) (Nat.le_trans HB.out.size BQ2.out.size) ?_
            intro v2 w2 ho2 hg2 hbel2
            have HO2 := hide ho2
            have HB2 := hide (hbel2 _ (bel_next HB.out BQ2.out))
            clear ho2 hg2 hbel2 BQ2
            replace HO := HO2
            replace HB := HB2
            clear HO2 HB2
            go_wp2
            go_roundw
            case rel => exact ⟨k0 + 1, true, ((out ++ [(t, m)]) ++ [(k, m0)]), by omega, by go_num, rfl, HO, HG2, HOL2, HB⟩
            case measure => simp [intOf]; omega
        · have he : ¬ k = t := ltK_ne hl
          rw [decide_eq_false he] at hq
          have HG2 : Hid (goG kC t (t, m) (s.drop (k0 + 1)) (out ++ [(k, m0)]) false = Fin) := by
            unfold Hid
            rw [← HG.out, drop_cons HX.out, goG]
            simp only [show ltK (kC (k, m0)) t = true from hl, if_neg (show ¬ kC (k, m0) = t from he)]
            rfl
          have HOL2 : Hid (((out ++ [(k, m0)])).length ≤ 2 * (k0 + 1)) := by have h9 := HOL.out; unfold Hid; first | omega | (simp; omega)
          clear he
          go_wp2_with (at_builtin; refine Stop.at ?_)
          unfold Stop
          have BQ2 := hide (bel1 wr (.cells #[.string k, .int .i64 m0] 36))
          refine append_rows rfl _ _ 22 rfl Try.underlying22 Try.infoCel rfl (by decide) (by decide) encC_len encC_one w.heap.size _ out [(k, m0)] rfl (HO.out.below BQ2.out) (some ⟨wr.heap.size, 0, none⟩) 1 1 rfl (fun h => by cases h) (RS.new encC_len wr _ rfl [(k, m0)] _ (by simp [encC]) _ _ 1 rfl (by decide)) (by have h9 := HOL.out; simp at h9 ⊢; omega) (Nat.le_trans HB.out.size BQ2.out.size) ?_
          intro v2 w2 ho2 hg2 hbel2
          have HO2 := hide ho2
          have HB2 := hide (hbel2 _ (bel_next HB.out BQ2.out))
          clear ho2 hg2 hbel2 BQ2
          replace HO := HO2
          replace HB := HB2
          clear HO2 HB2
          go_wp2
          go_roundw
          case rel => exact ⟨k0 + 1, false, (out ++ [(k, m0)]), by omega, by go_num, rfl, HO, HG2, HOL2, HB⟩
          case measure => simp [intOf]; omega
      · rcases hl : Op.bytesLess k.toList t.toList with _ | _
        · by_cases he : k = t
          · rw [decide_eq_true he] at hq
            have HG2 : Hid (goG kC t (t, m) (s.drop (k0 + 1)) out true = Fin) := by
              unfold Hid
              rw [← HG.out, drop_cons HX.out, goG]
              simp only [show ltK (kC (k, m0)) t = false from hl, if_pos (show kC (k, m0) = t from he)]
              rfl
            have HOL2 : Hid ((out).length ≤ 2 * (k0 + 1)) := by have h9 := HOL.out; unfold Hid; first | omega | (simp; omega)
            clear he
            go_wp2
            go_roundw
            case rel => exact ⟨k0 + 1, true, out, by omega, by go_num, rfl, HO, HG2, HOL2, HB⟩
            case measure => simp [intOf]; omega
          · rw [decide_eq_false he] at hq
            have HG2 : Hid (goG kC t (t, m) (s.drop (k0 + 1)) (out ++ [(k, m0)]) true = Fin) := by
              unfold Hid
              rw [← HG.out, drop_cons HX.out, goG]
              simp only [show ltK (kC (k, m0)) t = false from hl, if_neg (show ¬ kC (k, m0) = t from he)]
              rfl
            have HOL2 : Hid (((out ++ [(k, m0)])).length ≤ 2 * (k0 + 1)) := by have h9 := HOL.out; unfold Hid; first | omega | (simp; omega)
            clear he
            go_wp2_with (at_builtin; refine Stop.at ?_)
            unfold Stop
            have BQ2 := hide (bel1 wr (.cells #[.string k, .int .i64 m0] 36))
            refine append_rows rfl _ _ 22 rfl Try.underlying22 Try.infoCel rfl (by decide) (by decide) encC_len encC_one w.heap.size _ out [(k, m0)] rfl (HO.out.below BQ2.out) (some ⟨wr.heap.size, 0, none⟩) 1 1 rfl (fun h => by cases h) (RS.new encC_len wr _ rfl [(k, m0)] _ (by simp [encC]) _ _ 1 rfl (by decide)) (by have h9 := HOL.out; simp at h9 ⊢; omega) (Nat.le_trans HB.out.size BQ2.out.size) ?_
            intro v2 w2 ho2 hg2 hbel2
            have HO2 := hide ho2
            have HB2 := hide (hbel2 _ (bel_next HB.out BQ2.out))
            clear ho2 hg2 hbel2 BQ2
            replace HO := HO2
            replace HB := HB2
            clear HO2 HB2
            go_wp2
            go_roundw
            case rel => exact ⟨k0 + 1, true, (out ++ [(k, m0)]), by omega, by go_num, rfl, HO, HG2, HOL2, HB⟩
            case measure => simp [intOf]; omega
        · have he : ¬ k = t := ltK_ne hl
          rw [decide_eq_false he] at hq
          have HG2 : Hid (goG kC t (t, m) (s.drop (k0 + 1)) (out ++ [(k, m0)]) true = Fin) := by
            unfold Hid
            rw [← HG.out, drop_cons HX.out, goG]
            simp only [show ltK (kC (k, m0)) t = true from hl, if_neg (show ¬ kC (k, m0) = t from he)]
            rfl
          have HOL2 : Hid (((out ++ [(k, m0)])).length ≤ 2 * (k0 + 1)) := by have h9 := HOL.out; unfold Hid; first | omega | (simp; omega)
          clear he
          go_wp2_with (at_builtin; refine Stop.at ?_)
          unfold Stop
          have BQ2 := hide (bel1 wr (.cells #[.string k, .int .i64 m0] 36))
          refine append_rows rfl _ _ 22 rfl Try.underlying22 Try.infoCel rfl (by decide) (by decide) encC_len encC_one w.heap.size _ out [(k, m0)] rfl (HO.out.below BQ2.out) (some ⟨wr.heap.size, 0, none⟩) 1 1 rfl (fun h => by cases h) (RS.new encC_len wr _ rfl [(k, m0)] _ (by simp [encC]) _ _ 1 rfl (by decide)) (by have h9 := HOL.out; simp at h9 ⊢; omega) (Nat.le_trans HB.out.size BQ2.out.size) ?_
          intro v2 w2 ho2 hg2 hbel2
          have HO2 := hide ho2
          have HB2 := hide (hbel2 _ (bel_next HB.out BQ2.out))
          clear ho2 hg2 hbel2 BQ2
          replace HO := HO2
          replace HB := HB2
          clear HO2 HB2
          go_wp2
          go_roundw
          case rel => exact ⟨k0 + 1, true, (out ++ [(k, m0)]), by omega, by go_num, rfl, HO, HG2, HOL2, HB⟩
          case measure => simp [intOf]; omega
    · obtain rfl : k0 = n := by omega
      have HE : Hid ((if d then out else out ++ [(t, m)]) = Fin) := by
        have := HG.out
        rw [← HLEN.out, List.drop_length, goG] at this
        exact this
      clear HG
      cases d
      · have HE2 : Hid (out ++ [(t, m)] = Fin) := HE.out
        go_wp2_with (at_builtin; refine Stop.at ?_)
        unfold Stop
        have BQ1 := hide (bel1 wr (.cells #[.string t, .int .i64 m] 36))
        refine append_rows rfl _ _ 22 rfl Try.underlying22 Try.infoCel rfl (by decide) (by decide) encC_len encC_one w.heap.size _ out [(t, m)] rfl (HO.out.below BQ1.out) (some ⟨wr.heap.size, 0, none⟩) 1 1 rfl (fun h => by cases h) (RS.new encC_len wr _ rfl [(t, m)] _ (by simp [encC]) _ _ 1 rfl (by decide)) (by have h9 := HOL.out; simp at h9 ⊢; omega) (Nat.le_trans HB.out.size BQ1.out.size) ?_
        intro v1 w1 ho1 hg1 hbel1
        have HO1 := hide ho1
        have HB1 := hide (hbel1 _ (bel_next HB.out BQ1.out))
        clear ho1 hg1 hbel1 BQ1
        replace HO := HO1
        replace HB := HB1
        clear HO1 HB1
        rw [HE2.out] at HO
        obtain ⟨p, c, rfl, h1, h2⟩ := HO.out.open encC_len
        have H1 := hide h1
        have H2 := hide h2
        clear h1 h2
        go_wp2
        go_ret
        exact ⟨p, c, rfl, H1.out, H2.out, HB.out⟩
      · have HE2 : Hid (out = Fin) := HE.out
        rw [HE2.out] at HO
        obtain ⟨p, c, rfl, h1, h2⟩ := HO.out.open encC_len
        have H1 := hide h1
        have H2 := hide h2
        clear h1 h2
        go_wp2
        go_ret
        exact ⟨p, c, rfl, H1.out, H2.out, HB.out⟩
set_option maxHeartbeats 4000000 in
theorem Same10_ref (a : Option Addr) (n cap : Nat) (s : List Ce) (a' : Option Addr) (n' cap' : Nat) (s' : List Ce) (w : World) (hA : TS w a n s) (hA' : TS w a' n' s') : Calls Try.prog 14 #[.slice a n cap, .slice a' n' cap'] w fun e w' => e = .returned (.bool (decide (s = s'))) ∧ Below w.heap.size w w' := by
  have HV := hide hA
  have HV' := hide hA'
  have HLEN := hide hA.1
  have HLEN' := hide hA'.1
  have hmx := hA.2.1
  unfold maxLen at hmx
  clear hA hA'
  by_cases hnn : n = n'
  · subst hnn
    go_enter Try.func14, Try.ntmps14
    go_wp2
    go_loopw [5] (fun v wr => ∃ k : Nat, k ≤ n ∧ v = .int .i64 k ∧ Hid (s.take k = s'.take k) ∧ Hid (Below w.heap.size w wr)) (fun v _ => n - (intOf v).toNat)
    case atStart => exact ⟨0, by omega, rfl, (show _ = _ by simp), Below.refl _ _⟩
    case round =>
      obtain ⟨k0, hk, rfl, HF, HB⟩ := hrel
      by_cases hlt : k0 < n
      · obtain ⟨b, off, rfl⟩ := HV.out.addr (by omega)
        obtain ⟨b', off', rfl⟩ := HV'.out.addr (by omega)
        obtain ⟨k, m, hx, c0, c1⟩ := (HV.out.below HB.out).at k0 hlt
        obtain ⟨k', m', hx', d0, d1⟩ := (HV'.out.below HB.out).at k0 hlt
        have hk0 : (0 : Int) ≤ (k0 : Int) := by omega
        have hk1 : (k0 : Int) < (n : Int) := by omega
        have hq := eqK k k'
        have HX := hide hx
        have HX' := hide hx'
        clear hx hx'
        by_cases he : k = k'
        · rw [decide_eq_true he] at hq
          by_cases hm : m = m'
          · have HF2 : Hid (s.take (k0 + 1) = s'.take (k0 + 1)) := by unfold Hid; rw [takeG_snoc HX.out, takeG_snoc HX'.out, HF.out, he, hm]
            have hm2 : (m == m') = true := by rw [hm]; simp
            subst he hm
            go_upto_region 6 with fail
            refine wp_region_held_drew (S := fun W => Below wr.heap.size wr W) (by kernel_rfl) ((Below.refl _ wr).drew) (fun hS0 => ?_)
            refine takeInH 0 17 ?v1 rfl rfl (by kernel_rfl) (by kernel_rfl) (by kernel_rfl) (fun _ _ _ h => h) (by kernel_rfl) hS0 ?hy1 ?_
            case hy1 => (intro W hW; clear hW; go_simp; try rfl)
            simp only [Act.put, List.setIfInBounds_toArray, List.set_cons_zero, List.set_cons_succ]
            refine takeInH 1 18 ?v2 rfl rfl (by kernel_rfl) (by kernel_rfl) (by kernel_rfl) (fun _ _ _ h => h) (by kernel_rfl) hS0 ?hy2 ?_
            case hy2 => (intro W hW; clear hW; go_simp; try rfl)
            simp only [Act.put, List.setIfInBounds_toArray, List.set_cons_zero, List.set_cons_succ]
            refine takeInH 2 19 ?v3 rfl rfl (by kernel_rfl) (by kernel_rfl) (by kernel_rfl) (fun _ _ _ h => h) (by kernel_rfl) hS0 ?hy3 ?_
            case hy3 => (intro W hW; clear hW; go_simp; try rfl)
            simp only [Act.put, List.setIfInBounds_toArray, List.set_cons_zero, List.set_cons_succ]
            refine takeInH 3 20 ?v4 rfl rfl (by kernel_rfl) (by kernel_rfl) (by kernel_rfl) (fun _ _ _ h => h) (by kernel_rfl) hS0 ?hy4 ?_
            case hy4 => (intro W hW; have e0 := bcell hW c0; have e1 := bcell hW c1; have e2 := bcell hW d0; have e3 := bcell hW d1; clear hW; go_simp; try rfl)
            simp only [Act.put, List.setIfInBounds_toArray, List.set_cons_zero, List.set_cons_succ]
            refine takeInH 4 21 ?v5 rfl rfl (by kernel_rfl) (by kernel_rfl) (by kernel_rfl) (fun _ _ _ h => h) (by kernel_rfl) hS0 ?hy5 ?_
            case hy5 => (intro W hW; clear hW; go_simp; try rfl)
            simp only [Act.put, List.setIfInBounds_toArray, List.set_cons_zero, List.set_cons_succ]
            refine takeInH 5 22 ?v6 rfl rfl (by kernel_rfl) (by kernel_rfl) (by kernel_rfl) (fun _ _ _ h => h) (by kernel_rfl) hS0 ?hy6 ?_
            case hy6 => (intro W hW; clear hW; go_simp; try rfl)
            simp only [Act.put, List.setIfInBounds_toArray, List.set_cons_zero, List.set_cons_succ]
            refine takeInH 6 23 ?v7 rfl rfl (by kernel_rfl) (by kernel_rfl) (by kernel_rfl) (fun _ _ _ h => h) (by kernel_rfl) hS0 ?hy7 ?_
            case hy7 => (intro W hW; clear hW; go_simp; try rfl)
            simp only [Act.put, List.setIfInBounds_toArray, List.set_cons_zero, List.set_cons_succ]
            refine takeInH 7 24 ?v8 rfl rfl (by kernel_rfl) (by kernel_rfl) (by kernel_rfl) (fun _ _ _ h => h) (by kernel_rfl) hS0 ?hy8 ?_
            case hy8 => (intro W hW; have e0 := bcell hW c0; have e1 := bcell hW c1; have e2 := bcell hW d0; have e3 := bcell hW d1; clear hW; go_simp; try rfl)
            simp only [Act.put, List.setIfInBounds_toArray, List.set_cons_zero, List.set_cons_succ]
            refine takeInH 8 25 ?v9 rfl rfl (by kernel_rfl) (by kernel_rfl) (by kernel_rfl) (fun _ _ _ h => h) (by kernel_rfl) hS0 ?hy9 ?_
            case hy9 => (intro W hW; clear hW; go_simp; try rfl)
            simp only [Act.put, List.setIfInBounds_toArray, List.set_cons_zero, List.set_cons_succ]
            refine wpAnyH_done (by kernel_rfl) ?_ _
            go_wp2
            go_roundw
            case rel => exact ⟨k0 + 1, by omega, by go_num, HF2, (show Hid _ from bel_next HB.out hS0)⟩
            case measure => simp [intOf]; omega
          · have HNO : Hid (decide (s = s') = false) := by
              unfold Hid
              rw [decide_eq_false_iff_not]
              intro q
              have h1 := HX.out
              rw [q, HX'.out] at h1
              cases h1
              exact hm rfl
            have hm2 : (m == m') = false := by rw [beq_eq_false_iff_ne]; exact hm
            subst he
            go_upto_region 6 with fail
            refine wp_region_held_drew (S := fun W => Below wr.heap.size wr W) (by kernel_rfl) ((Below.refl _ wr).drew) (fun hS0 => ?_)
            refine takeInH 0 17 ?v10 rfl rfl (by kernel_rfl) (by kernel_rfl) (by kernel_rfl) (fun _ _ _ h => h) (by kernel_rfl) hS0 ?hy10 ?_
            case hy10 => (intro W hW; clear hW; go_simp; try rfl)
            simp only [Act.put, List.setIfInBounds_toArray, List.set_cons_zero, List.set_cons_succ]
            refine takeInH 1 18 ?v11 rfl rfl (by kernel_rfl) (by kernel_rfl) (by kernel_rfl) (fun _ _ _ h => h) (by kernel_rfl) hS0 ?hy11 ?_
            case hy11 => (intro W hW; clear hW; go_simp; try rfl)
            simp only [Act.put, List.setIfInBounds_toArray, List.set_cons_zero, List.set_cons_succ]
            refine takeInH 2 19 ?v12 rfl rfl (by kernel_rfl) (by kernel_rfl) (by kernel_rfl) (fun _ _ _ h => h) (by kernel_rfl) hS0 ?hy12 ?_
            case hy12 => (intro W hW; clear hW; go_simp; try rfl)
            simp only [Act.put, List.setIfInBounds_toArray, List.set_cons_zero, List.set_cons_succ]
            refine takeInH 3 20 ?v13 rfl rfl (by kernel_rfl) (by kernel_rfl) (by kernel_rfl) (fun _ _ _ h => h) (by kernel_rfl) hS0 ?hy13 ?_
            case hy13 => (intro W hW; have e0 := bcell hW c0; have e1 := bcell hW c1; have e2 := bcell hW d0; have e3 := bcell hW d1; clear hW; go_simp; try rfl)
            simp only [Act.put, List.setIfInBounds_toArray, List.set_cons_zero, List.set_cons_succ]
            refine takeInH 4 21 ?v14 rfl rfl (by kernel_rfl) (by kernel_rfl) (by kernel_rfl) (fun _ _ _ h => h) (by kernel_rfl) hS0 ?hy14 ?_
            case hy14 => (intro W hW; clear hW; go_simp; try rfl)
            simp only [Act.put, List.setIfInBounds_toArray, List.set_cons_zero, List.set_cons_succ]
            refine takeInH 5 22 ?v15 rfl rfl (by kernel_rfl) (by kernel_rfl) (by kernel_rfl) (fun _ _ _ h => h) (by kernel_rfl) hS0 ?hy15 ?_
            case hy15 => (intro W hW; clear hW; go_simp; try rfl)
            simp only [Act.put, List.setIfInBounds_toArray, List.set_cons_zero, List.set_cons_succ]
            refine takeInH 6 23 ?v16 rfl rfl (by kernel_rfl) (by kernel_rfl) (by kernel_rfl) (fun _ _ _ h => h) (by kernel_rfl) hS0 ?hy16 ?_
            case hy16 => (intro W hW; clear hW; go_simp; try rfl)
            simp only [Act.put, List.setIfInBounds_toArray, List.set_cons_zero, List.set_cons_succ]
            refine takeInH 7 24 ?v17 rfl rfl (by kernel_rfl) (by kernel_rfl) (by kernel_rfl) (fun _ _ _ h => h) (by kernel_rfl) hS0 ?hy17 ?_
            case hy17 => (intro W hW; have e0 := bcell hW c0; have e1 := bcell hW c1; have e2 := bcell hW d0; have e3 := bcell hW d1; clear hW; go_simp; try rfl)
            simp only [Act.put, List.setIfInBounds_toArray, List.set_cons_zero, List.set_cons_succ]
            refine takeInH 8 25 ?v18 rfl rfl (by kernel_rfl) (by kernel_rfl) (by kernel_rfl) (fun _ _ _ h => h) (by kernel_rfl) hS0 ?hy18 ?_
            case hy18 => (intro W hW; clear hW; go_simp; try rfl)
            simp only [Act.put, List.setIfInBounds_toArray, List.set_cons_zero, List.set_cons_succ]
            refine wpAnyH_done (by kernel_rfl) ?_ _
            go_wp2
            go_ret
            exact ⟨by rw [HNO.out]; rfl, bel_next HB.out hS0⟩
        · have HNO : Hid (decide (s = s') = false) := by
            unfold Hid
            rw [decide_eq_false_iff_not]
            intro q
            have h1 := HX.out
            rw [q, HX'.out] at h1
            cases h1
            exact he rfl
          rw [decide_eq_false he] at hq
          go_upto_region 6 with fail
          refine wp_region_held_drew (S := fun W => Below wr.heap.size wr W) (by kernel_rfl) ((Below.refl _ wr).drew) (fun hS0 => ?_)
          refine takeInH 0 17 ?v19 rfl rfl (by kernel_rfl) (by kernel_rfl) (by kernel_rfl) (fun _ _ _ h => h) (by kernel_rfl) hS0 ?hy19 ?_
          case hy19 => (intro W hW; clear hW; go_simp; try rfl)
          simp only [Act.put, List.setIfInBounds_toArray, List.set_cons_zero, List.set_cons_succ]
          refine takeInH 1 18 ?v20 rfl rfl (by kernel_rfl) (by kernel_rfl) (by kernel_rfl) (fun _ _ _ h => h) (by kernel_rfl) hS0 ?hy20 ?_
          case hy20 => (intro W hW; clear hW; go_simp; try rfl)
          simp only [Act.put, List.setIfInBounds_toArray, List.set_cons_zero, List.set_cons_succ]
          refine takeInH 2 19 ?v21 rfl rfl (by kernel_rfl) (by kernel_rfl) (by kernel_rfl) (fun _ _ _ h => h) (by kernel_rfl) hS0 ?hy21 ?_
          case hy21 => (intro W hW; clear hW; go_simp; try rfl)
          simp only [Act.put, List.setIfInBounds_toArray, List.set_cons_zero, List.set_cons_succ]
          refine takeInH 3 20 ?v22 rfl rfl (by kernel_rfl) (by kernel_rfl) (by kernel_rfl) (fun _ _ _ h => h) (by kernel_rfl) hS0 ?hy22 ?_
          case hy22 => (intro W hW; have e0 := bcell hW c0; have e1 := bcell hW c1; have e2 := bcell hW d0; have e3 := bcell hW d1; clear hW; go_simp; try rfl)
          simp only [Act.put, List.setIfInBounds_toArray, List.set_cons_zero, List.set_cons_succ]
          refine takeInH 4 21 ?v23 rfl rfl (by kernel_rfl) (by kernel_rfl) (by kernel_rfl) (fun _ _ _ h => h) (by kernel_rfl) hS0 ?hy23 ?_
          case hy23 => (intro W hW; clear hW; go_simp; try rfl)
          simp only [Act.put, List.setIfInBounds_toArray, List.set_cons_zero, List.set_cons_succ]
          refine takeInH 5 22 ?v24 rfl rfl (by kernel_rfl) (by kernel_rfl) (by kernel_rfl) (fun _ _ _ h => h) (by kernel_rfl) hS0 ?hy24 ?_
          case hy24 => (intro W hW; clear hW; go_simp; try rfl)
          simp only [Act.put, List.setIfInBounds_toArray, List.set_cons_zero, List.set_cons_succ]
          refine takeInH 6 23 ?v25 rfl rfl (by kernel_rfl) (by kernel_rfl) (by kernel_rfl) (fun _ _ _ h => h) (by kernel_rfl) hS0 ?hy25 ?_
          case hy25 => (intro W hW; clear hW; go_simp; try rfl)
          simp only [Act.put, List.setIfInBounds_toArray, List.set_cons_zero, List.set_cons_succ]
          refine takeInH 7 24 ?v26 rfl rfl (by kernel_rfl) (by kernel_rfl) (by kernel_rfl) (fun _ _ _ h => h) (by kernel_rfl) hS0 ?hy26 ?_
          case hy26 => (intro W hW; have e0 := bcell hW c0; have e1 := bcell hW c1; have e2 := bcell hW d0; have e3 := bcell hW d1; clear hW; go_simp; try rfl)
          simp only [Act.put, List.setIfInBounds_toArray, List.set_cons_zero, List.set_cons_succ]
          refine takeInH 8 25 ?v27 rfl rfl (by kernel_rfl) (by kernel_rfl) (by kernel_rfl) (fun _ _ _ h => h) (by kernel_rfl) hS0 ?hy27 ?_
          case hy27 => (intro W hW; clear hW; go_simp; try rfl)
          simp only [Act.put, List.setIfInBounds_toArray, List.set_cons_zero, List.set_cons_succ]
          refine wpAnyH_done (by kernel_rfl) ?_ _
          go_wp2
          go_ret
          exact ⟨by rw [HNO.out]; rfl, bel_next HB.out hS0⟩
      · obtain rfl : k0 = n := by omega
        have HR : Hid (s = s') := by
          have := HF.out
          rwa [List.take_of_length_le (by rw [HLEN.out]; exact Nat.le_refl _), List.take_of_length_le (by rw [HLEN'.out]; exact Nat.le_refl _)] at this
        clear HF
        go_wp2
        go_ret
        exact ⟨by rw [decide_eq_true HR.out]; rfl, HB.out⟩
  · have HNO : Hid (decide (s = s') = false) := by
      unfold Hid
      rw [decide_eq_false_iff_not]
      intro q
      have := HLEN.out
      rw [q, HLEN'.out] at this
      exact hnn this.symm
    have hnz : ¬ (n : Int) = (n' : Int) := by omega
    have hnb : ((n : Int) == (n' : Int)) = false := by rw [beq_eq_false_iff_ne]; exact hnz
    go_enter Try.func14, Try.ntmps14
    go_wp2
    go_ret
    exact ⟨by rw [HNO.out]; rfl, Below.refl _ _⟩
end Go.Proofs.Ytmleajocdooihaa
