/- A line of names is told just if they are names; the words that are kept are none. -/
import Derived.Test.YtadmibfnjhockaaDoorRows
import Derived.Test.YtadmibfnjhockaaDoorCards
import Derived.Test.YtadmibfnjhockaaDoorTie
import Derived.SevenTiedAt
import Derived.LaidMore
import Derived.LaidLaws
import Derived.Handed
import Derived.WalkKit
import Derived.ProofKit
import Derived.OpenShut
import Derived.ShutString
import Derived.ChangeOld
import Derived.Below
import Derived.SizedLaws
import Derived.Test.YtadmibfnjhockaaDoorN10
namespace Go.Proofs.YtadmibfnjhockaaDoor.parseOne
open Go.ChangeShapes Go.WideShapes Go.ChangeAt Go.RowKit
set_option linter.unusedVariables false

theorem own : ownKnob Tryd.prog.godebug = none := by kernel_rfl
theorem laidOut : laidOutB Tryd.prog = true := by kernel_rfl

set_option maxRecDepth 2000 in
set_option maxHeartbeats 8000000 in
theorem walk (v0 : Value) (v1 : Value) (a2 : Int) (w : World) (w0 : InS15 w v0) (w1 : InS15 w v1) (w2 : (Lit.int .u8 a2).wf = true) (hlv : LV w) :
    Calls Tryd.prog 5 #[v0, v1, .int .u8 a2] w fun e w' => e = .returned (.bool true) ∧ Below w.heap.size w w' := by
  have HLV := hide hlv
  clear hlv
  have HB : Hid (Below w.heap.size w w) := Below.refl _ _
  obtain ⟨a, rfl⟩ := w0
  obtain ⟨b, rfl⟩ := w1
  obtain ⟨n, hn⟩ : ∃ n, a.size = n := ⟨_, rfl⟩
  obtain ⟨m, hm⟩ : ∃ m, b.size = m := ⟨_, rfl⟩
  by_cases h1 : (60 : Int) < (n : Int)
  · go_enter Tryd.func5, Tryd.ntmps5
    go_wp2_with (go_at_call 6; refine (awake15 _ (HLV.out.below HB.out)).mono ?_; rintro e wz ⟨rfl, hb⟩; replace HB := hide (bel_next HB.out hb); clear hb)
    go_ret
    exact ⟨rfl, HB.out⟩
  by_cases h2 : (60 : Int) < (m : Int)
  · go_enter Tryd.func5, Tryd.ntmps5
    go_wp2_with (go_at_call 6; refine (awake15 _ (HLV.out.below HB.out)).mono ?_; rintro e wz ⟨rfl, hb⟩; replace HB := hide (bel_next HB.out hb); clear hb)
    go_ret
    exact ⟨rfl, HB.out⟩
  have HNM := hide (fun S W hs => Name15 S W hs)
  have HPL := hide (fun S W hs => plainQ15 S W hs)
  have ha2 : 0 ≤ a2 ∧ a2 ≤ 255 := by have q := w2; simp [Lit.wf, IntKind.min, IntKind.max, IntKind.bits, IntKind.signed] at q; omega
  obtain ⟨k4, j, hj, rfl⟩ : ∃ k4 j : Nat, j < 4 ∧ a2 = ((4 * k4 + j : Nat) : Int) := ⟨a2.toNat / 4, a2.toNat % 4, by omega, by omega⟩
  obtain rfl | rfl | rfl | rfl : j = 0 ∨ j = 1 ∨ j = 2 ∨ j = 3 := by omega
  · have HRJ : Hid (∀ S W, LV W → S = ⟨#[114, 117, 108, 101, 32, 114, 101, 102, 32]⟩ ++ a ++ ⟨#[32]⟩ ++ b → Calls Tryd.prog 7 #[.string S] W fun e w' => ∃ v ds x e0, e = .returned (.tuple #[v, .int .i64 x, .int .i64 e0]) ∧ linG (hdL 0 ++ bytesL a ++ 32 :: bytesL b) = (ds, x, e0) ∧ OwnF 7 RDc 32 W.heap.size w' v ds ∧ Below W.heap.size W w') := fun S W hW h => by
      subst h
      refine (LinesP15 _ W (by simp only [ByteArray.size_append]; unfold maxLen; show 9 + a.size + 1 + b.size ≤ _; omega) hW).mono ?_
      rintro e w' ⟨v, ds, x, e0, rfl, hl, ho, hb⟩
      refine ⟨v, ds, x, e0, rfl, ?_, ho, hb⟩
      rw [← hl, bytesL_app, bytesL_app, bytesL_app, List.append_assoc _ (bytesL ⟨#[32]⟩)]
      rfl
    have HX := hide (fun ha hb => one15 (j := 0) (a := a) (b := b) (by decide) ha hb (by omega) (by omega))
    go_enter Tryd.func5, Tryd.ntmps5
    go_upto_region 5 with (go_at_call 7; refine (HRJ.out _ _ (HLV.out.below (bel1 w _)) rfl).mono ?_; rintro e w1 ⟨v, ds, x, e0, rfl, hl, ho, hb⟩; have HL := hide hl; have HO := hide ho; replace HB := hide (bel_next (bel1 w _) hb); clear hl ho hb)
    by_cases hnn : nameB a = true ∧ nameB b = true
    · have HNA := hide hnn.1
      have HNB := hide hnn.2
      have hq := linG_ok ((HX.out (name_wd hnn.1) (name_wd hnn.2)).1 hnn.1 hnn.2)
      obtain ⟨rfl, rfl, rfl⟩ : ds = [(hdK 0, hdS 0, a, b, 0, [], 1)] ∧ x = 0 ∧ e0 = 0 := by
        have q := HL.out
        rw [hq] at q
        cases q
        exact ⟨rfl, rfl, rfl⟩
      obtain ⟨p, c, rfl, _, _⟩ := HO.out.open
      go_upto_region 7 with (go_at_call 12; refine (HNM.out _ _ (by omega)).mono ?_; rintro e wn ⟨rfl, hb⟩; replace HB := hide (bel_next HB.out hb); replace HO := hide (HO.out.below RDc.st hb); clear hb; (first | rw [HNA.out] | rw [HNB.out]))
      obtain ⟨p', c', hsl, hsf, hcp⟩ := HO.out.open
      cases hsl
      obtain ⟨b2, off, rfl⟩ := hsf.addr (Nat.zero_lt_succ _)
      obtain ⟨d, p', c', hx, _, _, c0, c1, c2, c3, _⟩ := hsf.dc 0 (Nat.zero_lt_succ _)
      cases hx
      simp only [Nat.zero_mul, Nat.add_zero, hdS] at c0 c1 c2 c3 ⊢
      have q1 := eqK a a
      rw [decide_eq_true rfl] at q1
      have q2 := eqK b b
      rw [decide_eq_true rfl] at q2
      clear HL HO hsf hcp HX HRJ hnn hq
      go_wp2_with (go_at_call 6; refine (awake15 _ (HLV.out.below HB.out)).mono ?_; rintro e wz ⟨rfl, hb⟩; replace HB := hide (bel_next HB.out hb); clear hb)
      go_ret
      exact ⟨rfl, HB.out⟩
    · have hk : HBad a b n m e0 := by
        by_cases h3 : e0 = 0
        · by_cases h4 : a = ⟨#[]⟩
          · exact .inr (.inl ⟨h3, h4⟩)
          by_cases h5 : b = ⟨#[]⟩
          · exact .inr (.inr (.inl ⟨h3, h4, h5⟩))
          by_cases h6 : (16 : Int) < (n : Int)
          · exact .inr (.inr (.inr (.inl ⟨h3, h4, h5, h6⟩)))
          by_cases h7 : (16 : Int) < (m : Int)
          · exact .inr (.inr (.inr (.inr (.inl ⟨h3, h4, h5, h6, h7⟩))))
          cases h8 : plainT (bytesL a) with
          | false => exact .inr (.inr (.inr (.inr (.inr (.inl ⟨h3, h4, h5, h6, h7, h8⟩)))))
          | true =>
            cases h9 : plainT (bytesL b) with
            | false => exact .inr (.inr (.inr (.inr (.inr (.inr (⟨h3, h4, h5, h6, h7, h8, h9⟩))))))
            | true =>
              exfalso
              have hn2 : nameB a = false ∨ nameB b = false := by
                cases g1 : nameB a
                · exact .inl rfl
                · cases g2 : nameB b
                  · exact .inr rfl
                  · exact absurd ⟨g1, g2⟩ hnn
              obtain ⟨x2, hx2⟩ := (HX.out ⟨plainT_wd h8, bytesL_ne h4⟩ ⟨plainT_wd h9, bytesL_ne h5⟩).2 hn2
              replace hx2 := linG_two hx2
              have q := HL.out
              rw [hx2] at q
              have q3 := congrArg (fun t => t.2.2) q
              have q4 : (2 : Int) = e0 := q3
              omega
        · exact .inl h3
      obtain ⟨p, c, rfl, hsf, hcp⟩ := HO.out.open
      clear hsf hcp HL HO HX HRJ
      by_cases hna : nameB a = true
      · have hnb : nameB b = false := by
          cases g2 : nameB b
          · rfl
          · exact absurd ⟨hna, g2⟩ hnn
        have HNA := hide hna
        have HNB := hide hnb
        clear hna hnb hnn
        rcases hk with h3 | ⟨h3, h4⟩ | ⟨h3, h4, h5⟩ | ⟨h3, h4, h5, h6⟩ | ⟨h3, h4, h5, h6, h7⟩ | ⟨h3, h4, h5, h6, h7, h8⟩ | ⟨h3, h4, h5, h6, h7, h8, h9⟩
        · go_wp2_with (first | (go_at_call 12; refine (HNM.out _ _ (by omega)).mono ?_; rintro e wn ⟨rfl, hb⟩; replace HB := hide (bel_next HB.out hb); clear hb; (first | rw [HNA.out] | rw [HNB.out])) | (go_at_call 13; refine (HPL.out _ _ (by omega)).mono ?_; rintro e wp ⟨rfl, hw9⟩; have hw8 := hw9.symm; subst hw8; clear hw9; (first | rw [HPA.out] | rw [HPB.out])) | (go_at_call 6; refine (awake15 _ (HLV.out.below HB.out)).mono ?_; rintro e wz ⟨rfl, hb⟩; replace HB := hide (bel_next HB.out hb); clear hb))
          all_goals first | (go_ret; exact ⟨rfl, HB.out⟩) | (exfalso; simp_all; done)
        · have qa := eqK a ⟨#[]⟩
          rw [decide_eq_true h4] at qa
          clear h4
          go_wp2_with (first | (go_at_call 12; refine (HNM.out _ _ (by omega)).mono ?_; rintro e wn ⟨rfl, hb⟩; replace HB := hide (bel_next HB.out hb); clear hb; (first | rw [HNA.out] | rw [HNB.out])) | (go_at_call 13; refine (HPL.out _ _ (by omega)).mono ?_; rintro e wp ⟨rfl, hw9⟩; have hw8 := hw9.symm; subst hw8; clear hw9; (first | rw [HPA.out] | rw [HPB.out])) | (go_at_call 6; refine (awake15 _ (HLV.out.below HB.out)).mono ?_; rintro e wz ⟨rfl, hb⟩; replace HB := hide (bel_next HB.out hb); clear hb))
          all_goals first | (go_ret; exact ⟨rfl, HB.out⟩) | (exfalso; simp_all; done)
        · have qa := eqK a ⟨#[]⟩
          rw [decide_eq_false h4] at qa
          have qb := eqK b ⟨#[]⟩
          rw [decide_eq_true h5] at qb
          clear h5
          go_wp2_with (first | (go_at_call 12; refine (HNM.out _ _ (by omega)).mono ?_; rintro e wn ⟨rfl, hb⟩; replace HB := hide (bel_next HB.out hb); clear hb; (first | rw [HNA.out] | rw [HNB.out])) | (go_at_call 13; refine (HPL.out _ _ (by omega)).mono ?_; rintro e wp ⟨rfl, hw9⟩; have hw8 := hw9.symm; subst hw8; clear hw9; (first | rw [HPA.out] | rw [HPB.out])) | (go_at_call 6; refine (awake15 _ (HLV.out.below HB.out)).mono ?_; rintro e wz ⟨rfl, hb⟩; replace HB := hide (bel_next HB.out hb); clear hb))
          all_goals first | (go_ret; exact ⟨rfl, HB.out⟩) | (exfalso; simp_all; done)
        · have qa := eqK a ⟨#[]⟩
          rw [decide_eq_false h4] at qa
          have qb := eqK b ⟨#[]⟩
          rw [decide_eq_false h5] at qb
          go_wp2_with (first | (go_at_call 12; refine (HNM.out _ _ (by omega)).mono ?_; rintro e wn ⟨rfl, hb⟩; replace HB := hide (bel_next HB.out hb); clear hb; (first | rw [HNA.out] | rw [HNB.out])) | (go_at_call 13; refine (HPL.out _ _ (by omega)).mono ?_; rintro e wp ⟨rfl, hw9⟩; have hw8 := hw9.symm; subst hw8; clear hw9; (first | rw [HPA.out] | rw [HPB.out])) | (go_at_call 6; refine (awake15 _ (HLV.out.below HB.out)).mono ?_; rintro e wz ⟨rfl, hb⟩; replace HB := hide (bel_next HB.out hb); clear hb))
          all_goals first | (go_ret; exact ⟨rfl, HB.out⟩) | (exfalso; simp_all; done)
        · have qa := eqK a ⟨#[]⟩
          rw [decide_eq_false h4] at qa
          have qb := eqK b ⟨#[]⟩
          rw [decide_eq_false h5] at qb
          go_wp2_with (first | (go_at_call 12; refine (HNM.out _ _ (by omega)).mono ?_; rintro e wn ⟨rfl, hb⟩; replace HB := hide (bel_next HB.out hb); clear hb; (first | rw [HNA.out] | rw [HNB.out])) | (go_at_call 13; refine (HPL.out _ _ (by omega)).mono ?_; rintro e wp ⟨rfl, hw9⟩; have hw8 := hw9.symm; subst hw8; clear hw9; (first | rw [HPA.out] | rw [HPB.out])) | (go_at_call 6; refine (awake15 _ (HLV.out.below HB.out)).mono ?_; rintro e wz ⟨rfl, hb⟩; replace HB := hide (bel_next HB.out hb); clear hb))
          all_goals first | (go_ret; exact ⟨rfl, HB.out⟩) | (exfalso; simp_all; done)
        · have qa := eqK a ⟨#[]⟩
          rw [decide_eq_false h4] at qa
          have qb := eqK b ⟨#[]⟩
          rw [decide_eq_false h5] at qb
          have HPA := hide h8
          clear h8
          go_wp2_with (first | (go_at_call 12; refine (HNM.out _ _ (by omega)).mono ?_; rintro e wn ⟨rfl, hb⟩; replace HB := hide (bel_next HB.out hb); clear hb; (first | rw [HNA.out] | rw [HNB.out])) | (go_at_call 13; refine (HPL.out _ _ (by omega)).mono ?_; rintro e wp ⟨rfl, hw9⟩; have hw8 := hw9.symm; subst hw8; clear hw9; (first | rw [HPA.out] | rw [HPB.out])) | (go_at_call 6; refine (awake15 _ (HLV.out.below HB.out)).mono ?_; rintro e wz ⟨rfl, hb⟩; replace HB := hide (bel_next HB.out hb); clear hb))
          all_goals first | (go_ret; exact ⟨rfl, HB.out⟩) | (exfalso; simp_all; done)
        · have qa := eqK a ⟨#[]⟩
          rw [decide_eq_false h4] at qa
          have qb := eqK b ⟨#[]⟩
          rw [decide_eq_false h5] at qb
          have HPA := hide h8
          have HPB := hide h9
          clear h8 h9
          go_wp2_with (first | (go_at_call 12; refine (HNM.out _ _ (by omega)).mono ?_; rintro e wn ⟨rfl, hb⟩; replace HB := hide (bel_next HB.out hb); clear hb; (first | rw [HNA.out] | rw [HNB.out])) | (go_at_call 13; refine (HPL.out _ _ (by omega)).mono ?_; rintro e wp ⟨rfl, hw9⟩; have hw8 := hw9.symm; subst hw8; clear hw9; (first | rw [HPA.out] | rw [HPB.out])) | (go_at_call 6; refine (awake15 _ (HLV.out.below HB.out)).mono ?_; rintro e wz ⟨rfl, hb⟩; replace HB := hide (bel_next HB.out hb); clear hb))
          all_goals first | (go_ret; exact ⟨rfl, HB.out⟩) | (exfalso; simp_all; done)
      · rw [Bool.not_eq_true] at hna
        have HNA := hide hna
        have HNB : Hid (nameB b = nameB b) := rfl
        clear hna hnn
        rcases hk with h3 | ⟨h3, h4⟩ | ⟨h3, h4, h5⟩ | ⟨h3, h4, h5, h6⟩ | ⟨h3, h4, h5, h6, h7⟩ | ⟨h3, h4, h5, h6, h7, h8⟩ | ⟨h3, h4, h5, h6, h7, h8, h9⟩
        · go_wp2_with (first | (go_at_call 12; refine (HNM.out _ _ (by omega)).mono ?_; rintro e wn ⟨rfl, hb⟩; replace HB := hide (bel_next HB.out hb); clear hb; (first | rw [HNA.out] | rw [HNB.out])) | (go_at_call 13; refine (HPL.out _ _ (by omega)).mono ?_; rintro e wp ⟨rfl, hw9⟩; have hw8 := hw9.symm; subst hw8; clear hw9; (first | rw [HPA.out] | rw [HPB.out])) | (go_at_call 6; refine (awake15 _ (HLV.out.below HB.out)).mono ?_; rintro e wz ⟨rfl, hb⟩; replace HB := hide (bel_next HB.out hb); clear hb))
          all_goals first | (go_ret; exact ⟨rfl, HB.out⟩) | (exfalso; simp_all; done)
        · have qa := eqK a ⟨#[]⟩
          rw [decide_eq_true h4] at qa
          clear h4
          go_wp2_with (first | (go_at_call 12; refine (HNM.out _ _ (by omega)).mono ?_; rintro e wn ⟨rfl, hb⟩; replace HB := hide (bel_next HB.out hb); clear hb; (first | rw [HNA.out] | rw [HNB.out])) | (go_at_call 13; refine (HPL.out _ _ (by omega)).mono ?_; rintro e wp ⟨rfl, hw9⟩; have hw8 := hw9.symm; subst hw8; clear hw9; (first | rw [HPA.out] | rw [HPB.out])) | (go_at_call 6; refine (awake15 _ (HLV.out.below HB.out)).mono ?_; rintro e wz ⟨rfl, hb⟩; replace HB := hide (bel_next HB.out hb); clear hb))
          all_goals first | (go_ret; exact ⟨rfl, HB.out⟩) | (exfalso; simp_all; done)
        · have qa := eqK a ⟨#[]⟩
          rw [decide_eq_false h4] at qa
          have qb := eqK b ⟨#[]⟩
          rw [decide_eq_true h5] at qb
          clear h5
          go_wp2_with (first | (go_at_call 12; refine (HNM.out _ _ (by omega)).mono ?_; rintro e wn ⟨rfl, hb⟩; replace HB := hide (bel_next HB.out hb); clear hb; (first | rw [HNA.out] | rw [HNB.out])) | (go_at_call 13; refine (HPL.out _ _ (by omega)).mono ?_; rintro e wp ⟨rfl, hw9⟩; have hw8 := hw9.symm; subst hw8; clear hw9; (first | rw [HPA.out] | rw [HPB.out])) | (go_at_call 6; refine (awake15 _ (HLV.out.below HB.out)).mono ?_; rintro e wz ⟨rfl, hb⟩; replace HB := hide (bel_next HB.out hb); clear hb))
          all_goals first | (go_ret; exact ⟨rfl, HB.out⟩) | (exfalso; simp_all; done)
        · have qa := eqK a ⟨#[]⟩
          rw [decide_eq_false h4] at qa
          have qb := eqK b ⟨#[]⟩
          rw [decide_eq_false h5] at qb
          go_wp2_with (first | (go_at_call 12; refine (HNM.out _ _ (by omega)).mono ?_; rintro e wn ⟨rfl, hb⟩; replace HB := hide (bel_next HB.out hb); clear hb; (first | rw [HNA.out] | rw [HNB.out])) | (go_at_call 13; refine (HPL.out _ _ (by omega)).mono ?_; rintro e wp ⟨rfl, hw9⟩; have hw8 := hw9.symm; subst hw8; clear hw9; (first | rw [HPA.out] | rw [HPB.out])) | (go_at_call 6; refine (awake15 _ (HLV.out.below HB.out)).mono ?_; rintro e wz ⟨rfl, hb⟩; replace HB := hide (bel_next HB.out hb); clear hb))
          all_goals first | (go_ret; exact ⟨rfl, HB.out⟩) | (exfalso; simp_all; done)
        · have qa := eqK a ⟨#[]⟩
          rw [decide_eq_false h4] at qa
          have qb := eqK b ⟨#[]⟩
          rw [decide_eq_false h5] at qb
          go_wp2_with (first | (go_at_call 12; refine (HNM.out _ _ (by omega)).mono ?_; rintro e wn ⟨rfl, hb⟩; replace HB := hide (bel_next HB.out hb); clear hb; (first | rw [HNA.out] | rw [HNB.out])) | (go_at_call 13; refine (HPL.out _ _ (by omega)).mono ?_; rintro e wp ⟨rfl, hw9⟩; have hw8 := hw9.symm; subst hw8; clear hw9; (first | rw [HPA.out] | rw [HPB.out])) | (go_at_call 6; refine (awake15 _ (HLV.out.below HB.out)).mono ?_; rintro e wz ⟨rfl, hb⟩; replace HB := hide (bel_next HB.out hb); clear hb))
          all_goals first | (go_ret; exact ⟨rfl, HB.out⟩) | (exfalso; simp_all; done)
        · have qa := eqK a ⟨#[]⟩
          rw [decide_eq_false h4] at qa
          have qb := eqK b ⟨#[]⟩
          rw [decide_eq_false h5] at qb
          have HPA := hide h8
          clear h8
          go_wp2_with (first | (go_at_call 12; refine (HNM.out _ _ (by omega)).mono ?_; rintro e wn ⟨rfl, hb⟩; replace HB := hide (bel_next HB.out hb); clear hb; (first | rw [HNA.out] | rw [HNB.out])) | (go_at_call 13; refine (HPL.out _ _ (by omega)).mono ?_; rintro e wp ⟨rfl, hw9⟩; have hw8 := hw9.symm; subst hw8; clear hw9; (first | rw [HPA.out] | rw [HPB.out])) | (go_at_call 6; refine (awake15 _ (HLV.out.below HB.out)).mono ?_; rintro e wz ⟨rfl, hb⟩; replace HB := hide (bel_next HB.out hb); clear hb))
          all_goals first | (go_ret; exact ⟨rfl, HB.out⟩) | (exfalso; simp_all; done)
        · have qa := eqK a ⟨#[]⟩
          rw [decide_eq_false h4] at qa
          have qb := eqK b ⟨#[]⟩
          rw [decide_eq_false h5] at qb
          have HPA := hide h8
          have HPB := hide h9
          clear h8 h9
          go_wp2_with (first | (go_at_call 12; refine (HNM.out _ _ (by omega)).mono ?_; rintro e wn ⟨rfl, hb⟩; replace HB := hide (bel_next HB.out hb); clear hb; (first | rw [HNA.out] | rw [HNB.out])) | (go_at_call 13; refine (HPL.out _ _ (by omega)).mono ?_; rintro e wp ⟨rfl, hw9⟩; have hw8 := hw9.symm; subst hw8; clear hw9; (first | rw [HPA.out] | rw [HPB.out])) | (go_at_call 6; refine (awake15 _ (HLV.out.below HB.out)).mono ?_; rintro e wz ⟨rfl, hb⟩; replace HB := hide (bel_next HB.out hb); clear hb))
          all_goals first | (go_ret; exact ⟨rfl, HB.out⟩) | (exfalso; simp_all; done)
  · have HRJ : Hid (∀ S W, LV W → S = ⟨#[114, 117, 108, 101, 32, 98, 111, 116, 104, 32]⟩ ++ a ++ ⟨#[32]⟩ ++ b → Calls Tryd.prog 7 #[.string S] W fun e w' => ∃ v ds x e0, e = .returned (.tuple #[v, .int .i64 x, .int .i64 e0]) ∧ linG (hdL 1 ++ bytesL a ++ 32 :: bytesL b) = (ds, x, e0) ∧ OwnF 7 RDc 32 W.heap.size w' v ds ∧ Below W.heap.size W w') := fun S W hW h => by
      subst h
      refine (LinesP15 _ W (by simp only [ByteArray.size_append]; unfold maxLen; show 10 + a.size + 1 + b.size ≤ _; omega) hW).mono ?_
      rintro e w' ⟨v, ds, x, e0, rfl, hl, ho, hb⟩
      refine ⟨v, ds, x, e0, rfl, ?_, ho, hb⟩
      rw [← hl, bytesL_app, bytesL_app, bytesL_app, List.append_assoc _ (bytesL ⟨#[32]⟩)]
      rfl
    have HX := hide (fun ha hb => one15 (j := 1) (a := a) (b := b) (by decide) ha hb (by omega) (by omega))
    go_enter Tryd.func5, Tryd.ntmps5
    go_upto_region 5 with (go_at_call 7; refine (HRJ.out _ _ (HLV.out.below (bel1 w _)) rfl).mono ?_; rintro e w1 ⟨v, ds, x, e0, rfl, hl, ho, hb⟩; have HL := hide hl; have HO := hide ho; replace HB := hide (bel_next (bel1 w _) hb); clear hl ho hb)
    by_cases hnn : nameB a = true ∧ nameB b = true
    · have HNA := hide hnn.1
      have HNB := hide hnn.2
      have hq := linG_ok ((HX.out (name_wd hnn.1) (name_wd hnn.2)).1 hnn.1 hnn.2)
      obtain ⟨rfl, rfl, rfl⟩ : ds = [(hdK 1, hdS 1, a, b, 0, [], 1)] ∧ x = 0 ∧ e0 = 0 := by
        have q := HL.out
        rw [hq] at q
        cases q
        exact ⟨rfl, rfl, rfl⟩
      obtain ⟨p, c, rfl, _, _⟩ := HO.out.open
      go_upto_region 7 with (go_at_call 12; refine (HNM.out _ _ (by omega)).mono ?_; rintro e wn ⟨rfl, hb⟩; replace HB := hide (bel_next HB.out hb); replace HO := hide (HO.out.below RDc.st hb); clear hb; (first | rw [HNA.out] | rw [HNB.out]))
      obtain ⟨p', c', hsl, hsf, hcp⟩ := HO.out.open
      cases hsl
      obtain ⟨b2, off, rfl⟩ := hsf.addr (Nat.zero_lt_succ _)
      obtain ⟨d, p', c', hx, _, _, c0, c1, c2, c3, _⟩ := hsf.dc 0 (Nat.zero_lt_succ _)
      cases hx
      simp only [Nat.zero_mul, Nat.add_zero, hdS] at c0 c1 c2 c3 ⊢
      have q1 := eqK a a
      rw [decide_eq_true rfl] at q1
      have q2 := eqK b b
      rw [decide_eq_true rfl] at q2
      clear HL HO hsf hcp HX HRJ hnn hq
      go_wp2_with (go_at_call 6; refine (awake15 _ (HLV.out.below HB.out)).mono ?_; rintro e wz ⟨rfl, hb⟩; replace HB := hide (bel_next HB.out hb); clear hb)
      go_ret
      exact ⟨rfl, HB.out⟩
    · have hk : HBad a b n m e0 := by
        by_cases h3 : e0 = 0
        · by_cases h4 : a = ⟨#[]⟩
          · exact .inr (.inl ⟨h3, h4⟩)
          by_cases h5 : b = ⟨#[]⟩
          · exact .inr (.inr (.inl ⟨h3, h4, h5⟩))
          by_cases h6 : (16 : Int) < (n : Int)
          · exact .inr (.inr (.inr (.inl ⟨h3, h4, h5, h6⟩)))
          by_cases h7 : (16 : Int) < (m : Int)
          · exact .inr (.inr (.inr (.inr (.inl ⟨h3, h4, h5, h6, h7⟩))))
          cases h8 : plainT (bytesL a) with
          | false => exact .inr (.inr (.inr (.inr (.inr (.inl ⟨h3, h4, h5, h6, h7, h8⟩)))))
          | true =>
            cases h9 : plainT (bytesL b) with
            | false => exact .inr (.inr (.inr (.inr (.inr (.inr (⟨h3, h4, h5, h6, h7, h8, h9⟩))))))
            | true =>
              exfalso
              have hn2 : nameB a = false ∨ nameB b = false := by
                cases g1 : nameB a
                · exact .inl rfl
                · cases g2 : nameB b
                  · exact .inr rfl
                  · exact absurd ⟨g1, g2⟩ hnn
              obtain ⟨x2, hx2⟩ := (HX.out ⟨plainT_wd h8, bytesL_ne h4⟩ ⟨plainT_wd h9, bytesL_ne h5⟩).2 hn2
              replace hx2 := linG_two hx2
              have q := HL.out
              rw [hx2] at q
              have q3 := congrArg (fun t => t.2.2) q
              have q4 : (2 : Int) = e0 := q3
              omega
        · exact .inl h3
      obtain ⟨p, c, rfl, hsf, hcp⟩ := HO.out.open
      clear hsf hcp HL HO HX HRJ
      by_cases hna : nameB a = true
      · have hnb : nameB b = false := by
          cases g2 : nameB b
          · rfl
          · exact absurd ⟨hna, g2⟩ hnn
        have HNA := hide hna
        have HNB := hide hnb
        clear hna hnb hnn
        rcases hk with h3 | ⟨h3, h4⟩ | ⟨h3, h4, h5⟩ | ⟨h3, h4, h5, h6⟩ | ⟨h3, h4, h5, h6, h7⟩ | ⟨h3, h4, h5, h6, h7, h8⟩ | ⟨h3, h4, h5, h6, h7, h8, h9⟩
        · go_wp2_with (first | (go_at_call 12; refine (HNM.out _ _ (by omega)).mono ?_; rintro e wn ⟨rfl, hb⟩; replace HB := hide (bel_next HB.out hb); clear hb; (first | rw [HNA.out] | rw [HNB.out])) | (go_at_call 13; refine (HPL.out _ _ (by omega)).mono ?_; rintro e wp ⟨rfl, hw9⟩; have hw8 := hw9.symm; subst hw8; clear hw9; (first | rw [HPA.out] | rw [HPB.out])) | (go_at_call 6; refine (awake15 _ (HLV.out.below HB.out)).mono ?_; rintro e wz ⟨rfl, hb⟩; replace HB := hide (bel_next HB.out hb); clear hb))
          all_goals first | (go_ret; exact ⟨rfl, HB.out⟩) | (exfalso; simp_all; done)
        · have qa := eqK a ⟨#[]⟩
          rw [decide_eq_true h4] at qa
          clear h4
          go_wp2_with (first | (go_at_call 12; refine (HNM.out _ _ (by omega)).mono ?_; rintro e wn ⟨rfl, hb⟩; replace HB := hide (bel_next HB.out hb); clear hb; (first | rw [HNA.out] | rw [HNB.out])) | (go_at_call 13; refine (HPL.out _ _ (by omega)).mono ?_; rintro e wp ⟨rfl, hw9⟩; have hw8 := hw9.symm; subst hw8; clear hw9; (first | rw [HPA.out] | rw [HPB.out])) | (go_at_call 6; refine (awake15 _ (HLV.out.below HB.out)).mono ?_; rintro e wz ⟨rfl, hb⟩; replace HB := hide (bel_next HB.out hb); clear hb))
          all_goals first | (go_ret; exact ⟨rfl, HB.out⟩) | (exfalso; simp_all; done)
        · have qa := eqK a ⟨#[]⟩
          rw [decide_eq_false h4] at qa
          have qb := eqK b ⟨#[]⟩
          rw [decide_eq_true h5] at qb
          clear h5
          go_wp2_with (first | (go_at_call 12; refine (HNM.out _ _ (by omega)).mono ?_; rintro e wn ⟨rfl, hb⟩; replace HB := hide (bel_next HB.out hb); clear hb; (first | rw [HNA.out] | rw [HNB.out])) | (go_at_call 13; refine (HPL.out _ _ (by omega)).mono ?_; rintro e wp ⟨rfl, hw9⟩; have hw8 := hw9.symm; subst hw8; clear hw9; (first | rw [HPA.out] | rw [HPB.out])) | (go_at_call 6; refine (awake15 _ (HLV.out.below HB.out)).mono ?_; rintro e wz ⟨rfl, hb⟩; replace HB := hide (bel_next HB.out hb); clear hb))
          all_goals first | (go_ret; exact ⟨rfl, HB.out⟩) | (exfalso; simp_all; done)
        · have qa := eqK a ⟨#[]⟩
          rw [decide_eq_false h4] at qa
          have qb := eqK b ⟨#[]⟩
          rw [decide_eq_false h5] at qb
          go_wp2_with (first | (go_at_call 12; refine (HNM.out _ _ (by omega)).mono ?_; rintro e wn ⟨rfl, hb⟩; replace HB := hide (bel_next HB.out hb); clear hb; (first | rw [HNA.out] | rw [HNB.out])) | (go_at_call 13; refine (HPL.out _ _ (by omega)).mono ?_; rintro e wp ⟨rfl, hw9⟩; have hw8 := hw9.symm; subst hw8; clear hw9; (first | rw [HPA.out] | rw [HPB.out])) | (go_at_call 6; refine (awake15 _ (HLV.out.below HB.out)).mono ?_; rintro e wz ⟨rfl, hb⟩; replace HB := hide (bel_next HB.out hb); clear hb))
          all_goals first | (go_ret; exact ⟨rfl, HB.out⟩) | (exfalso; simp_all; done)
        · have qa := eqK a ⟨#[]⟩
          rw [decide_eq_false h4] at qa
          have qb := eqK b ⟨#[]⟩
          rw [decide_eq_false h5] at qb
          go_wp2_with (first | (go_at_call 12; refine (HNM.out _ _ (by omega)).mono ?_; rintro e wn ⟨rfl, hb⟩; replace HB := hide (bel_next HB.out hb); clear hb; (first | rw [HNA.out] | rw [HNB.out])) | (go_at_call 13; refine (HPL.out _ _ (by omega)).mono ?_; rintro e wp ⟨rfl, hw9⟩; have hw8 := hw9.symm; subst hw8; clear hw9; (first | rw [HPA.out] | rw [HPB.out])) | (go_at_call 6; refine (awake15 _ (HLV.out.below HB.out)).mono ?_; rintro e wz ⟨rfl, hb⟩; replace HB := hide (bel_next HB.out hb); clear hb))
          all_goals first | (go_ret; exact ⟨rfl, HB.out⟩) | (exfalso; simp_all; done)
        · have qa := eqK a ⟨#[]⟩
          rw [decide_eq_false h4] at qa
          have qb := eqK b ⟨#[]⟩
          rw [decide_eq_false h5] at qb
          have HPA := hide h8
          clear h8
          go_wp2_with (first | (go_at_call 12; refine (HNM.out _ _ (by omega)).mono ?_; rintro e wn ⟨rfl, hb⟩; replace HB := hide (bel_next HB.out hb); clear hb; (first | rw [HNA.out] | rw [HNB.out])) | (go_at_call 13; refine (HPL.out _ _ (by omega)).mono ?_; rintro e wp ⟨rfl, hw9⟩; have hw8 := hw9.symm; subst hw8; clear hw9; (first | rw [HPA.out] | rw [HPB.out])) | (go_at_call 6; refine (awake15 _ (HLV.out.below HB.out)).mono ?_; rintro e wz ⟨rfl, hb⟩; replace HB := hide (bel_next HB.out hb); clear hb))
          all_goals first | (go_ret; exact ⟨rfl, HB.out⟩) | (exfalso; simp_all; done)
        · have qa := eqK a ⟨#[]⟩
          rw [decide_eq_false h4] at qa
          have qb := eqK b ⟨#[]⟩
          rw [decide_eq_false h5] at qb
          have HPA := hide h8
          have HPB := hide h9
          clear h8 h9
          go_wp2_with (first | (go_at_call 12; refine (HNM.out _ _ (by omega)).mono ?_; rintro e wn ⟨rfl, hb⟩; replace HB := hide (bel_next HB.out hb); clear hb; (first | rw [HNA.out] | rw [HNB.out])) | (go_at_call 13; refine (HPL.out _ _ (by omega)).mono ?_; rintro e wp ⟨rfl, hw9⟩; have hw8 := hw9.symm; subst hw8; clear hw9; (first | rw [HPA.out] | rw [HPB.out])) | (go_at_call 6; refine (awake15 _ (HLV.out.below HB.out)).mono ?_; rintro e wz ⟨rfl, hb⟩; replace HB := hide (bel_next HB.out hb); clear hb))
          all_goals first | (go_ret; exact ⟨rfl, HB.out⟩) | (exfalso; simp_all; done)
      · rw [Bool.not_eq_true] at hna
        have HNA := hide hna
        have HNB : Hid (nameB b = nameB b) := rfl
        clear hna hnn
        rcases hk with h3 | ⟨h3, h4⟩ | ⟨h3, h4, h5⟩ | ⟨h3, h4, h5, h6⟩ | ⟨h3, h4, h5, h6, h7⟩ | ⟨h3, h4, h5, h6, h7, h8⟩ | ⟨h3, h4, h5, h6, h7, h8, h9⟩
        · go_wp2_with (first | (go_at_call 12; refine (HNM.out _ _ (by omega)).mono ?_; rintro e wn ⟨rfl, hb⟩; replace HB := hide (bel_next HB.out hb); clear hb; (first | rw [HNA.out] | rw [HNB.out])) | (go_at_call 13; refine (HPL.out _ _ (by omega)).mono ?_; rintro e wp ⟨rfl, hw9⟩; have hw8 := hw9.symm; subst hw8; clear hw9; (first | rw [HPA.out] | rw [HPB.out])) | (go_at_call 6; refine (awake15 _ (HLV.out.below HB.out)).mono ?_; rintro e wz ⟨rfl, hb⟩; replace HB := hide (bel_next HB.out hb); clear hb))
          all_goals first | (go_ret; exact ⟨rfl, HB.out⟩) | (exfalso; simp_all; done)
        · have qa := eqK a ⟨#[]⟩
          rw [decide_eq_true h4] at qa
          clear h4
          go_wp2_with (first | (go_at_call 12; refine (HNM.out _ _ (by omega)).mono ?_; rintro e wn ⟨rfl, hb⟩; replace HB := hide (bel_next HB.out hb); clear hb; (first | rw [HNA.out] | rw [HNB.out])) | (go_at_call 13; refine (HPL.out _ _ (by omega)).mono ?_; rintro e wp ⟨rfl, hw9⟩; have hw8 := hw9.symm; subst hw8; clear hw9; (first | rw [HPA.out] | rw [HPB.out])) | (go_at_call 6; refine (awake15 _ (HLV.out.below HB.out)).mono ?_; rintro e wz ⟨rfl, hb⟩; replace HB := hide (bel_next HB.out hb); clear hb))
          all_goals first | (go_ret; exact ⟨rfl, HB.out⟩) | (exfalso; simp_all; done)
        · have qa := eqK a ⟨#[]⟩
          rw [decide_eq_false h4] at qa
          have qb := eqK b ⟨#[]⟩
          rw [decide_eq_true h5] at qb
          clear h5
          go_wp2_with (first | (go_at_call 12; refine (HNM.out _ _ (by omega)).mono ?_; rintro e wn ⟨rfl, hb⟩; replace HB := hide (bel_next HB.out hb); clear hb; (first | rw [HNA.out] | rw [HNB.out])) | (go_at_call 13; refine (HPL.out _ _ (by omega)).mono ?_; rintro e wp ⟨rfl, hw9⟩; have hw8 := hw9.symm; subst hw8; clear hw9; (first | rw [HPA.out] | rw [HPB.out])) | (go_at_call 6; refine (awake15 _ (HLV.out.below HB.out)).mono ?_; rintro e wz ⟨rfl, hb⟩; replace HB := hide (bel_next HB.out hb); clear hb))
          all_goals first | (go_ret; exact ⟨rfl, HB.out⟩) | (exfalso; simp_all; done)
        · have qa := eqK a ⟨#[]⟩
          rw [decide_eq_false h4] at qa
          have qb := eqK b ⟨#[]⟩
          rw [decide_eq_false h5] at qb
          go_wp2_with (first | (go_at_call 12; refine (HNM.out _ _ (by omega)).mono ?_; rintro e wn ⟨rfl, hb⟩; replace HB := hide (bel_next HB.out hb); clear hb; (first | rw [HNA.out] | rw [HNB.out])) | (go_at_call 13; refine (HPL.out _ _ (by omega)).mono ?_; rintro e wp ⟨rfl, hw9⟩; have hw8 := hw9.symm; subst hw8; clear hw9; (first | rw [HPA.out] | rw [HPB.out])) | (go_at_call 6; refine (awake15 _ (HLV.out.below HB.out)).mono ?_; rintro e wz ⟨rfl, hb⟩; replace HB := hide (bel_next HB.out hb); clear hb))
          all_goals first | (go_ret; exact ⟨rfl, HB.out⟩) | (exfalso; simp_all; done)
        · have qa := eqK a ⟨#[]⟩
          rw [decide_eq_false h4] at qa
          have qb := eqK b ⟨#[]⟩
          rw [decide_eq_false h5] at qb
          go_wp2_with (first | (go_at_call 12; refine (HNM.out _ _ (by omega)).mono ?_; rintro e wn ⟨rfl, hb⟩; replace HB := hide (bel_next HB.out hb); clear hb; (first | rw [HNA.out] | rw [HNB.out])) | (go_at_call 13; refine (HPL.out _ _ (by omega)).mono ?_; rintro e wp ⟨rfl, hw9⟩; have hw8 := hw9.symm; subst hw8; clear hw9; (first | rw [HPA.out] | rw [HPB.out])) | (go_at_call 6; refine (awake15 _ (HLV.out.below HB.out)).mono ?_; rintro e wz ⟨rfl, hb⟩; replace HB := hide (bel_next HB.out hb); clear hb))
          all_goals first | (go_ret; exact ⟨rfl, HB.out⟩) | (exfalso; simp_all; done)
        · have qa := eqK a ⟨#[]⟩
          rw [decide_eq_false h4] at qa
          have qb := eqK b ⟨#[]⟩
          rw [decide_eq_false h5] at qb
          have HPA := hide h8
          clear h8
          go_wp2_with (first | (go_at_call 12; refine (HNM.out _ _ (by omega)).mono ?_; rintro e wn ⟨rfl, hb⟩; replace HB := hide (bel_next HB.out hb); clear hb; (first | rw [HNA.out] | rw [HNB.out])) | (go_at_call 13; refine (HPL.out _ _ (by omega)).mono ?_; rintro e wp ⟨rfl, hw9⟩; have hw8 := hw9.symm; subst hw8; clear hw9; (first | rw [HPA.out] | rw [HPB.out])) | (go_at_call 6; refine (awake15 _ (HLV.out.below HB.out)).mono ?_; rintro e wz ⟨rfl, hb⟩; replace HB := hide (bel_next HB.out hb); clear hb))
          all_goals first | (go_ret; exact ⟨rfl, HB.out⟩) | (exfalso; simp_all; done)
        · have qa := eqK a ⟨#[]⟩
          rw [decide_eq_false h4] at qa
          have qb := eqK b ⟨#[]⟩
          rw [decide_eq_false h5] at qb
          have HPA := hide h8
          have HPB := hide h9
          clear h8 h9
          go_wp2_with (first | (go_at_call 12; refine (HNM.out _ _ (by omega)).mono ?_; rintro e wn ⟨rfl, hb⟩; replace HB := hide (bel_next HB.out hb); clear hb; (first | rw [HNA.out] | rw [HNB.out])) | (go_at_call 13; refine (HPL.out _ _ (by omega)).mono ?_; rintro e wp ⟨rfl, hw9⟩; have hw8 := hw9.symm; subst hw8; clear hw9; (first | rw [HPA.out] | rw [HPB.out])) | (go_at_call 6; refine (awake15 _ (HLV.out.below HB.out)).mono ?_; rintro e wz ⟨rfl, hb⟩; replace HB := hide (bel_next HB.out hb); clear hb))
          all_goals first | (go_ret; exact ⟨rfl, HB.out⟩) | (exfalso; simp_all; done)
  · have HRJ : Hid (∀ S W, LV W → S = ⟨#[114, 117, 108, 101, 32, 115, 116, 114, 105, 99, 116, 32, 110, 101, 101, 100, 115, 32]⟩ ++ a ++ ⟨#[32]⟩ ++ b → Calls Tryd.prog 7 #[.string S] W fun e w' => ∃ v ds x e0, e = .returned (.tuple #[v, .int .i64 x, .int .i64 e0]) ∧ linG (hdL 2 ++ bytesL a ++ 32 :: bytesL b) = (ds, x, e0) ∧ OwnF 7 RDc 32 W.heap.size w' v ds ∧ Below W.heap.size W w') := fun S W hW h => by
      subst h
      refine (LinesP15 _ W (by simp only [ByteArray.size_append]; unfold maxLen; show 18 + a.size + 1 + b.size ≤ _; omega) hW).mono ?_
      rintro e w' ⟨v, ds, x, e0, rfl, hl, ho, hb⟩
      refine ⟨v, ds, x, e0, rfl, ?_, ho, hb⟩
      rw [← hl, bytesL_app, bytesL_app, bytesL_app, List.append_assoc _ (bytesL ⟨#[32]⟩)]
      rfl
    have HX := hide (fun ha hb => one15 (j := 2) (a := a) (b := b) (by decide) ha hb (by omega) (by omega))
    go_enter Tryd.func5, Tryd.ntmps5
    go_upto_region 5 with (go_at_call 7; refine (HRJ.out _ _ (HLV.out.below (bel1 w _)) rfl).mono ?_; rintro e w1 ⟨v, ds, x, e0, rfl, hl, ho, hb⟩; have HL := hide hl; have HO := hide ho; replace HB := hide (bel_next (bel1 w _) hb); clear hl ho hb)
    by_cases hnn : nameB a = true ∧ nameB b = true
    · have HNA := hide hnn.1
      have HNB := hide hnn.2
      have hq := linG_ok ((HX.out (name_wd hnn.1) (name_wd hnn.2)).1 hnn.1 hnn.2)
      obtain ⟨rfl, rfl, rfl⟩ : ds = [(hdK 2, hdS 2, a, b, 0, [], 1)] ∧ x = 0 ∧ e0 = 0 := by
        have q := HL.out
        rw [hq] at q
        cases q
        exact ⟨rfl, rfl, rfl⟩
      obtain ⟨p, c, rfl, _, _⟩ := HO.out.open
      go_upto_region 7 with (go_at_call 12; refine (HNM.out _ _ (by omega)).mono ?_; rintro e wn ⟨rfl, hb⟩; replace HB := hide (bel_next HB.out hb); replace HO := hide (HO.out.below RDc.st hb); clear hb; (first | rw [HNA.out] | rw [HNB.out]))
      obtain ⟨p', c', hsl, hsf, hcp⟩ := HO.out.open
      cases hsl
      obtain ⟨b2, off, rfl⟩ := hsf.addr (Nat.zero_lt_succ _)
      obtain ⟨d, p', c', hx, _, _, c0, c1, c2, c3, _⟩ := hsf.dc 0 (Nat.zero_lt_succ _)
      cases hx
      simp only [Nat.zero_mul, Nat.add_zero, hdS] at c0 c1 c2 c3 ⊢
      have q1 := eqK a a
      rw [decide_eq_true rfl] at q1
      have q2 := eqK b b
      rw [decide_eq_true rfl] at q2
      clear HL HO hsf hcp HX HRJ hnn hq
      go_wp2_with (go_at_call 6; refine (awake15 _ (HLV.out.below HB.out)).mono ?_; rintro e wz ⟨rfl, hb⟩; replace HB := hide (bel_next HB.out hb); clear hb)
      go_ret
      exact ⟨rfl, HB.out⟩
    · have hk : HBad a b n m e0 := by
        by_cases h3 : e0 = 0
        · by_cases h4 : a = ⟨#[]⟩
          · exact .inr (.inl ⟨h3, h4⟩)
          by_cases h5 : b = ⟨#[]⟩
          · exact .inr (.inr (.inl ⟨h3, h4, h5⟩))
          by_cases h6 : (16 : Int) < (n : Int)
          · exact .inr (.inr (.inr (.inl ⟨h3, h4, h5, h6⟩)))
          by_cases h7 : (16 : Int) < (m : Int)
          · exact .inr (.inr (.inr (.inr (.inl ⟨h3, h4, h5, h6, h7⟩))))
          cases h8 : plainT (bytesL a) with
          | false => exact .inr (.inr (.inr (.inr (.inr (.inl ⟨h3, h4, h5, h6, h7, h8⟩)))))
          | true =>
            cases h9 : plainT (bytesL b) with
            | false => exact .inr (.inr (.inr (.inr (.inr (.inr (⟨h3, h4, h5, h6, h7, h8, h9⟩))))))
            | true =>
              exfalso
              have hn2 : nameB a = false ∨ nameB b = false := by
                cases g1 : nameB a
                · exact .inl rfl
                · cases g2 : nameB b
                  · exact .inr rfl
                  · exact absurd ⟨g1, g2⟩ hnn
              obtain ⟨x2, hx2⟩ := (HX.out ⟨plainT_wd h8, bytesL_ne h4⟩ ⟨plainT_wd h9, bytesL_ne h5⟩).2 hn2
              replace hx2 := linG_two hx2
              have q := HL.out
              rw [hx2] at q
              have q3 := congrArg (fun t => t.2.2) q
              have q4 : (2 : Int) = e0 := q3
              omega
        · exact .inl h3
      obtain ⟨p, c, rfl, hsf, hcp⟩ := HO.out.open
      clear hsf hcp HL HO HX HRJ
      by_cases hna : nameB a = true
      · have hnb : nameB b = false := by
          cases g2 : nameB b
          · rfl
          · exact absurd ⟨hna, g2⟩ hnn
        have HNA := hide hna
        have HNB := hide hnb
        clear hna hnb hnn
        rcases hk with h3 | ⟨h3, h4⟩ | ⟨h3, h4, h5⟩ | ⟨h3, h4, h5, h6⟩ | ⟨h3, h4, h5, h6, h7⟩ | ⟨h3, h4, h5, h6, h7, h8⟩ | ⟨h3, h4, h5, h6, h7, h8, h9⟩
        · go_wp2_with (first | (go_at_call 12; refine (HNM.out _ _ (by omega)).mono ?_; rintro e wn ⟨rfl, hb⟩; replace HB := hide (bel_next HB.out hb); clear hb; (first | rw [HNA.out] | rw [HNB.out])) | (go_at_call 13; refine (HPL.out _ _ (by omega)).mono ?_; rintro e wp ⟨rfl, hw9⟩; have hw8 := hw9.symm; subst hw8; clear hw9; (first | rw [HPA.out] | rw [HPB.out])) | (go_at_call 6; refine (awake15 _ (HLV.out.below HB.out)).mono ?_; rintro e wz ⟨rfl, hb⟩; replace HB := hide (bel_next HB.out hb); clear hb))
          all_goals first | (go_ret; exact ⟨rfl, HB.out⟩) | (exfalso; simp_all; done)
        · have qa := eqK a ⟨#[]⟩
          rw [decide_eq_true h4] at qa
          clear h4
          go_wp2_with (first | (go_at_call 12; refine (HNM.out _ _ (by omega)).mono ?_; rintro e wn ⟨rfl, hb⟩; replace HB := hide (bel_next HB.out hb); clear hb; (first | rw [HNA.out] | rw [HNB.out])) | (go_at_call 13; refine (HPL.out _ _ (by omega)).mono ?_; rintro e wp ⟨rfl, hw9⟩; have hw8 := hw9.symm; subst hw8; clear hw9; (first | rw [HPA.out] | rw [HPB.out])) | (go_at_call 6; refine (awake15 _ (HLV.out.below HB.out)).mono ?_; rintro e wz ⟨rfl, hb⟩; replace HB := hide (bel_next HB.out hb); clear hb))
          all_goals first | (go_ret; exact ⟨rfl, HB.out⟩) | (exfalso; simp_all; done)
        · have qa := eqK a ⟨#[]⟩
          rw [decide_eq_false h4] at qa
          have qb := eqK b ⟨#[]⟩
          rw [decide_eq_true h5] at qb
          clear h5
          go_wp2_with (first | (go_at_call 12; refine (HNM.out _ _ (by omega)).mono ?_; rintro e wn ⟨rfl, hb⟩; replace HB := hide (bel_next HB.out hb); clear hb; (first | rw [HNA.out] | rw [HNB.out])) | (go_at_call 13; refine (HPL.out _ _ (by omega)).mono ?_; rintro e wp ⟨rfl, hw9⟩; have hw8 := hw9.symm; subst hw8; clear hw9; (first | rw [HPA.out] | rw [HPB.out])) | (go_at_call 6; refine (awake15 _ (HLV.out.below HB.out)).mono ?_; rintro e wz ⟨rfl, hb⟩; replace HB := hide (bel_next HB.out hb); clear hb))
          all_goals first | (go_ret; exact ⟨rfl, HB.out⟩) | (exfalso; simp_all; done)
        · have qa := eqK a ⟨#[]⟩
          rw [decide_eq_false h4] at qa
          have qb := eqK b ⟨#[]⟩
          rw [decide_eq_false h5] at qb
          go_wp2_with (first | (go_at_call 12; refine (HNM.out _ _ (by omega)).mono ?_; rintro e wn ⟨rfl, hb⟩; replace HB := hide (bel_next HB.out hb); clear hb; (first | rw [HNA.out] | rw [HNB.out])) | (go_at_call 13; refine (HPL.out _ _ (by omega)).mono ?_; rintro e wp ⟨rfl, hw9⟩; have hw8 := hw9.symm; subst hw8; clear hw9; (first | rw [HPA.out] | rw [HPB.out])) | (go_at_call 6; refine (awake15 _ (HLV.out.below HB.out)).mono ?_; rintro e wz ⟨rfl, hb⟩; replace HB := hide (bel_next HB.out hb); clear hb))
          all_goals first | (go_ret; exact ⟨rfl, HB.out⟩) | (exfalso; simp_all; done)
        · have qa := eqK a ⟨#[]⟩
          rw [decide_eq_false h4] at qa
          have qb := eqK b ⟨#[]⟩
          rw [decide_eq_false h5] at qb
          go_wp2_with (first | (go_at_call 12; refine (HNM.out _ _ (by omega)).mono ?_; rintro e wn ⟨rfl, hb⟩; replace HB := hide (bel_next HB.out hb); clear hb; (first | rw [HNA.out] | rw [HNB.out])) | (go_at_call 13; refine (HPL.out _ _ (by omega)).mono ?_; rintro e wp ⟨rfl, hw9⟩; have hw8 := hw9.symm; subst hw8; clear hw9; (first | rw [HPA.out] | rw [HPB.out])) | (go_at_call 6; refine (awake15 _ (HLV.out.below HB.out)).mono ?_; rintro e wz ⟨rfl, hb⟩; replace HB := hide (bel_next HB.out hb); clear hb))
          all_goals first | (go_ret; exact ⟨rfl, HB.out⟩) | (exfalso; simp_all; done)
        · have qa := eqK a ⟨#[]⟩
          rw [decide_eq_false h4] at qa
          have qb := eqK b ⟨#[]⟩
          rw [decide_eq_false h5] at qb
          have HPA := hide h8
          clear h8
          go_wp2_with (first | (go_at_call 12; refine (HNM.out _ _ (by omega)).mono ?_; rintro e wn ⟨rfl, hb⟩; replace HB := hide (bel_next HB.out hb); clear hb; (first | rw [HNA.out] | rw [HNB.out])) | (go_at_call 13; refine (HPL.out _ _ (by omega)).mono ?_; rintro e wp ⟨rfl, hw9⟩; have hw8 := hw9.symm; subst hw8; clear hw9; (first | rw [HPA.out] | rw [HPB.out])) | (go_at_call 6; refine (awake15 _ (HLV.out.below HB.out)).mono ?_; rintro e wz ⟨rfl, hb⟩; replace HB := hide (bel_next HB.out hb); clear hb))
          all_goals first | (go_ret; exact ⟨rfl, HB.out⟩) | (exfalso; simp_all; done)
        · have qa := eqK a ⟨#[]⟩
          rw [decide_eq_false h4] at qa
          have qb := eqK b ⟨#[]⟩
          rw [decide_eq_false h5] at qb
          have HPA := hide h8
          have HPB := hide h9
          clear h8 h9
          go_wp2_with (first | (go_at_call 12; refine (HNM.out _ _ (by omega)).mono ?_; rintro e wn ⟨rfl, hb⟩; replace HB := hide (bel_next HB.out hb); clear hb; (first | rw [HNA.out] | rw [HNB.out])) | (go_at_call 13; refine (HPL.out _ _ (by omega)).mono ?_; rintro e wp ⟨rfl, hw9⟩; have hw8 := hw9.symm; subst hw8; clear hw9; (first | rw [HPA.out] | rw [HPB.out])) | (go_at_call 6; refine (awake15 _ (HLV.out.below HB.out)).mono ?_; rintro e wz ⟨rfl, hb⟩; replace HB := hide (bel_next HB.out hb); clear hb))
          all_goals first | (go_ret; exact ⟨rfl, HB.out⟩) | (exfalso; simp_all; done)
      · rw [Bool.not_eq_true] at hna
        have HNA := hide hna
        have HNB : Hid (nameB b = nameB b) := rfl
        clear hna hnn
        rcases hk with h3 | ⟨h3, h4⟩ | ⟨h3, h4, h5⟩ | ⟨h3, h4, h5, h6⟩ | ⟨h3, h4, h5, h6, h7⟩ | ⟨h3, h4, h5, h6, h7, h8⟩ | ⟨h3, h4, h5, h6, h7, h8, h9⟩
        · go_wp2_with (first | (go_at_call 12; refine (HNM.out _ _ (by omega)).mono ?_; rintro e wn ⟨rfl, hb⟩; replace HB := hide (bel_next HB.out hb); clear hb; (first | rw [HNA.out] | rw [HNB.out])) | (go_at_call 13; refine (HPL.out _ _ (by omega)).mono ?_; rintro e wp ⟨rfl, hw9⟩; have hw8 := hw9.symm; subst hw8; clear hw9; (first | rw [HPA.out] | rw [HPB.out])) | (go_at_call 6; refine (awake15 _ (HLV.out.below HB.out)).mono ?_; rintro e wz ⟨rfl, hb⟩; replace HB := hide (bel_next HB.out hb); clear hb))
          all_goals first | (go_ret; exact ⟨rfl, HB.out⟩) | (exfalso; simp_all; done)
        · have qa := eqK a ⟨#[]⟩
          rw [decide_eq_true h4] at qa
          clear h4
          go_wp2_with (first | (go_at_call 12; refine (HNM.out _ _ (by omega)).mono ?_; rintro e wn ⟨rfl, hb⟩; replace HB := hide (bel_next HB.out hb); clear hb; (first | rw [HNA.out] | rw [HNB.out])) | (go_at_call 13; refine (HPL.out _ _ (by omega)).mono ?_; rintro e wp ⟨rfl, hw9⟩; have hw8 := hw9.symm; subst hw8; clear hw9; (first | rw [HPA.out] | rw [HPB.out])) | (go_at_call 6; refine (awake15 _ (HLV.out.below HB.out)).mono ?_; rintro e wz ⟨rfl, hb⟩; replace HB := hide (bel_next HB.out hb); clear hb))
          all_goals first | (go_ret; exact ⟨rfl, HB.out⟩) | (exfalso; simp_all; done)
        · have qa := eqK a ⟨#[]⟩
          rw [decide_eq_false h4] at qa
          have qb := eqK b ⟨#[]⟩
          rw [decide_eq_true h5] at qb
          clear h5
          go_wp2_with (first | (go_at_call 12; refine (HNM.out _ _ (by omega)).mono ?_; rintro e wn ⟨rfl, hb⟩; replace HB := hide (bel_next HB.out hb); clear hb; (first | rw [HNA.out] | rw [HNB.out])) | (go_at_call 13; refine (HPL.out _ _ (by omega)).mono ?_; rintro e wp ⟨rfl, hw9⟩; have hw8 := hw9.symm; subst hw8; clear hw9; (first | rw [HPA.out] | rw [HPB.out])) | (go_at_call 6; refine (awake15 _ (HLV.out.below HB.out)).mono ?_; rintro e wz ⟨rfl, hb⟩; replace HB := hide (bel_next HB.out hb); clear hb))
          all_goals first | (go_ret; exact ⟨rfl, HB.out⟩) | (exfalso; simp_all; done)
        · have qa := eqK a ⟨#[]⟩
          rw [decide_eq_false h4] at qa
          have qb := eqK b ⟨#[]⟩
          rw [decide_eq_false h5] at qb
          go_wp2_with (first | (go_at_call 12; refine (HNM.out _ _ (by omega)).mono ?_; rintro e wn ⟨rfl, hb⟩; replace HB := hide (bel_next HB.out hb); clear hb; (first | rw [HNA.out] | rw [HNB.out])) | (go_at_call 13; refine (HPL.out _ _ (by omega)).mono ?_; rintro e wp ⟨rfl, hw9⟩; have hw8 := hw9.symm; subst hw8; clear hw9; (first | rw [HPA.out] | rw [HPB.out])) | (go_at_call 6; refine (awake15 _ (HLV.out.below HB.out)).mono ?_; rintro e wz ⟨rfl, hb⟩; replace HB := hide (bel_next HB.out hb); clear hb))
          all_goals first | (go_ret; exact ⟨rfl, HB.out⟩) | (exfalso; simp_all; done)
        · have qa := eqK a ⟨#[]⟩
          rw [decide_eq_false h4] at qa
          have qb := eqK b ⟨#[]⟩
          rw [decide_eq_false h5] at qb
          go_wp2_with (first | (go_at_call 12; refine (HNM.out _ _ (by omega)).mono ?_; rintro e wn ⟨rfl, hb⟩; replace HB := hide (bel_next HB.out hb); clear hb; (first | rw [HNA.out] | rw [HNB.out])) | (go_at_call 13; refine (HPL.out _ _ (by omega)).mono ?_; rintro e wp ⟨rfl, hw9⟩; have hw8 := hw9.symm; subst hw8; clear hw9; (first | rw [HPA.out] | rw [HPB.out])) | (go_at_call 6; refine (awake15 _ (HLV.out.below HB.out)).mono ?_; rintro e wz ⟨rfl, hb⟩; replace HB := hide (bel_next HB.out hb); clear hb))
          all_goals first | (go_ret; exact ⟨rfl, HB.out⟩) | (exfalso; simp_all; done)
        · have qa := eqK a ⟨#[]⟩
          rw [decide_eq_false h4] at qa
          have qb := eqK b ⟨#[]⟩
          rw [decide_eq_false h5] at qb
          have HPA := hide h8
          clear h8
          go_wp2_with (first | (go_at_call 12; refine (HNM.out _ _ (by omega)).mono ?_; rintro e wn ⟨rfl, hb⟩; replace HB := hide (bel_next HB.out hb); clear hb; (first | rw [HNA.out] | rw [HNB.out])) | (go_at_call 13; refine (HPL.out _ _ (by omega)).mono ?_; rintro e wp ⟨rfl, hw9⟩; have hw8 := hw9.symm; subst hw8; clear hw9; (first | rw [HPA.out] | rw [HPB.out])) | (go_at_call 6; refine (awake15 _ (HLV.out.below HB.out)).mono ?_; rintro e wz ⟨rfl, hb⟩; replace HB := hide (bel_next HB.out hb); clear hb))
          all_goals first | (go_ret; exact ⟨rfl, HB.out⟩) | (exfalso; simp_all; done)
        · have qa := eqK a ⟨#[]⟩
          rw [decide_eq_false h4] at qa
          have qb := eqK b ⟨#[]⟩
          rw [decide_eq_false h5] at qb
          have HPA := hide h8
          have HPB := hide h9
          clear h8 h9
          go_wp2_with (first | (go_at_call 12; refine (HNM.out _ _ (by omega)).mono ?_; rintro e wn ⟨rfl, hb⟩; replace HB := hide (bel_next HB.out hb); clear hb; (first | rw [HNA.out] | rw [HNB.out])) | (go_at_call 13; refine (HPL.out _ _ (by omega)).mono ?_; rintro e wp ⟨rfl, hw9⟩; have hw8 := hw9.symm; subst hw8; clear hw9; (first | rw [HPA.out] | rw [HPB.out])) | (go_at_call 6; refine (awake15 _ (HLV.out.below HB.out)).mono ?_; rintro e wz ⟨rfl, hb⟩; replace HB := hide (bel_next HB.out hb); clear hb))
          all_goals first | (go_ret; exact ⟨rfl, HB.out⟩) | (exfalso; simp_all; done)
  · have HRJ : Hid (∀ S W, LV W → S = ⟨#[114, 117, 108, 101, 32, 115, 116, 114, 105, 99, 116, 32, 114, 101, 102, 32]⟩ ++ a ++ ⟨#[32]⟩ ++ b → Calls Tryd.prog 7 #[.string S] W fun e w' => ∃ v ds x e0, e = .returned (.tuple #[v, .int .i64 x, .int .i64 e0]) ∧ linG (hdL 3 ++ bytesL a ++ 32 :: bytesL b) = (ds, x, e0) ∧ OwnF 7 RDc 32 W.heap.size w' v ds ∧ Below W.heap.size W w') := fun S W hW h => by
      subst h
      refine (LinesP15 _ W (by simp only [ByteArray.size_append]; unfold maxLen; show 16 + a.size + 1 + b.size ≤ _; omega) hW).mono ?_
      rintro e w' ⟨v, ds, x, e0, rfl, hl, ho, hb⟩
      refine ⟨v, ds, x, e0, rfl, ?_, ho, hb⟩
      rw [← hl, bytesL_app, bytesL_app, bytesL_app, List.append_assoc _ (bytesL ⟨#[32]⟩)]
      rfl
    have HX := hide (fun ha hb => one15 (j := 3) (a := a) (b := b) (by decide) ha hb (by omega) (by omega))
    go_enter Tryd.func5, Tryd.ntmps5
    go_upto_region 5 with (go_at_call 7; refine (HRJ.out _ _ (HLV.out.below (bel1 w _)) rfl).mono ?_; rintro e w1 ⟨v, ds, x, e0, rfl, hl, ho, hb⟩; have HL := hide hl; have HO := hide ho; replace HB := hide (bel_next (bel1 w _) hb); clear hl ho hb)
    by_cases hnn : nameB a = true ∧ nameB b = true
    · have HNA := hide hnn.1
      have HNB := hide hnn.2
      have hq := linG_ok ((HX.out (name_wd hnn.1) (name_wd hnn.2)).1 hnn.1 hnn.2)
      obtain ⟨rfl, rfl, rfl⟩ : ds = [(hdK 3, hdS 3, a, b, 0, [], 1)] ∧ x = 0 ∧ e0 = 0 := by
        have q := HL.out
        rw [hq] at q
        cases q
        exact ⟨rfl, rfl, rfl⟩
      obtain ⟨p, c, rfl, _, _⟩ := HO.out.open
      go_upto_region 7 with (go_at_call 12; refine (HNM.out _ _ (by omega)).mono ?_; rintro e wn ⟨rfl, hb⟩; replace HB := hide (bel_next HB.out hb); replace HO := hide (HO.out.below RDc.st hb); clear hb; (first | rw [HNA.out] | rw [HNB.out]))
      obtain ⟨p', c', hsl, hsf, hcp⟩ := HO.out.open
      cases hsl
      obtain ⟨b2, off, rfl⟩ := hsf.addr (Nat.zero_lt_succ _)
      obtain ⟨d, p', c', hx, _, _, c0, c1, c2, c3, _⟩ := hsf.dc 0 (Nat.zero_lt_succ _)
      cases hx
      simp only [Nat.zero_mul, Nat.add_zero, hdS] at c0 c1 c2 c3 ⊢
      have q1 := eqK a a
      rw [decide_eq_true rfl] at q1
      have q2 := eqK b b
      rw [decide_eq_true rfl] at q2
      clear HL HO hsf hcp HX HRJ hnn hq
      go_wp2_with (go_at_call 6; refine (awake15 _ (HLV.out.below HB.out)).mono ?_; rintro e wz ⟨rfl, hb⟩; replace HB := hide (bel_next HB.out hb); clear hb)
      go_ret
      exact ⟨rfl, HB.out⟩
    · have hk : HBad a b n m e0 := by
        by_cases h3 : e0 = 0
        · by_cases h4 : a = ⟨#[]⟩
          · exact .inr (.inl ⟨h3, h4⟩)
          by_cases h5 : b = ⟨#[]⟩
          · exact .inr (.inr (.inl ⟨h3, h4, h5⟩))
          by_cases h6 : (16 : Int) < (n : Int)
          · exact .inr (.inr (.inr (.inl ⟨h3, h4, h5, h6⟩)))
          by_cases h7 : (16 : Int) < (m : Int)
          · exact .inr (.inr (.inr (.inr (.inl ⟨h3, h4, h5, h6, h7⟩))))
          cases h8 : plainT (bytesL a) with
          | false => exact .inr (.inr (.inr (.inr (.inr (.inl ⟨h3, h4, h5, h6, h7, h8⟩)))))
          | true =>
            cases h9 : plainT (bytesL b) with
            | false => exact .inr (.inr (.inr (.inr (.inr (.inr (⟨h3, h4, h5, h6, h7, h8, h9⟩))))))
            | true =>
              exfalso
              have hn2 : nameB a = false ∨ nameB b = false := by
                cases g1 : nameB a
                · exact .inl rfl
                · cases g2 : nameB b
                  · exact .inr rfl
                  · exact absurd ⟨g1, g2⟩ hnn
              obtain ⟨x2, hx2⟩ := (HX.out ⟨plainT_wd h8, bytesL_ne h4⟩ ⟨plainT_wd h9, bytesL_ne h5⟩).2 hn2
              replace hx2 := linG_two hx2
              have q := HL.out
              rw [hx2] at q
              have q3 := congrArg (fun t => t.2.2) q
              have q4 : (2 : Int) = e0 := q3
              omega
        · exact .inl h3
      obtain ⟨p, c, rfl, hsf, hcp⟩ := HO.out.open
      clear hsf hcp HL HO HX HRJ
      by_cases hna : nameB a = true
      · have hnb : nameB b = false := by
          cases g2 : nameB b
          · rfl
          · exact absurd ⟨hna, g2⟩ hnn
        have HNA := hide hna
        have HNB := hide hnb
        clear hna hnb hnn
        rcases hk with h3 | ⟨h3, h4⟩ | ⟨h3, h4, h5⟩ | ⟨h3, h4, h5, h6⟩ | ⟨h3, h4, h5, h6, h7⟩ | ⟨h3, h4, h5, h6, h7, h8⟩ | ⟨h3, h4, h5, h6, h7, h8, h9⟩
        · go_wp2_with (first | (go_at_call 12; refine (HNM.out _ _ (by omega)).mono ?_; rintro e wn ⟨rfl, hb⟩; replace HB := hide (bel_next HB.out hb); clear hb; (first | rw [HNA.out] | rw [HNB.out])) | (go_at_call 13; refine (HPL.out _ _ (by omega)).mono ?_; rintro e wp ⟨rfl, hw9⟩; have hw8 := hw9.symm; subst hw8; clear hw9; (first | rw [HPA.out] | rw [HPB.out])) | (go_at_call 6; refine (awake15 _ (HLV.out.below HB.out)).mono ?_; rintro e wz ⟨rfl, hb⟩; replace HB := hide (bel_next HB.out hb); clear hb))
          all_goals first | (go_ret; exact ⟨rfl, HB.out⟩) | (exfalso; simp_all; done)
        · have qa := eqK a ⟨#[]⟩
          rw [decide_eq_true h4] at qa
          clear h4
          go_wp2_with (first | (go_at_call 12; refine (HNM.out _ _ (by omega)).mono ?_; rintro e wn ⟨rfl, hb⟩; replace HB := hide (bel_next HB.out hb); clear hb; (first | rw [HNA.out] | rw [HNB.out])) | (go_at_call 13; refine (HPL.out _ _ (by omega)).mono ?_; rintro e wp ⟨rfl, hw9⟩; have hw8 := hw9.symm; subst hw8; clear hw9; (first | rw [HPA.out] | rw [HPB.out])) | (go_at_call 6; refine (awake15 _ (HLV.out.below HB.out)).mono ?_; rintro e wz ⟨rfl, hb⟩; replace HB := hide (bel_next HB.out hb); clear hb))
          all_goals first | (go_ret; exact ⟨rfl, HB.out⟩) | (exfalso; simp_all; done)
        · have qa := eqK a ⟨#[]⟩
          rw [decide_eq_false h4] at qa
          have qb := eqK b ⟨#[]⟩
          rw [decide_eq_true h5] at qb
          clear h5
          go_wp2_with (first | (go_at_call 12; refine (HNM.out _ _ (by omega)).mono ?_; rintro e wn ⟨rfl, hb⟩; replace HB := hide (bel_next HB.out hb); clear hb; (first | rw [HNA.out] | rw [HNB.out])) | (go_at_call 13; refine (HPL.out _ _ (by omega)).mono ?_; rintro e wp ⟨rfl, hw9⟩; have hw8 := hw9.symm; subst hw8; clear hw9; (first | rw [HPA.out] | rw [HPB.out])) | (go_at_call 6; refine (awake15 _ (HLV.out.below HB.out)).mono ?_; rintro e wz ⟨rfl, hb⟩; replace HB := hide (bel_next HB.out hb); clear hb))
          all_goals first | (go_ret; exact ⟨rfl, HB.out⟩) | (exfalso; simp_all; done)
        · have qa := eqK a ⟨#[]⟩
          rw [decide_eq_false h4] at qa
          have qb := eqK b ⟨#[]⟩
          rw [decide_eq_false h5] at qb
          go_wp2_with (first | (go_at_call 12; refine (HNM.out _ _ (by omega)).mono ?_; rintro e wn ⟨rfl, hb⟩; replace HB := hide (bel_next HB.out hb); clear hb; (first | rw [HNA.out] | rw [HNB.out])) | (go_at_call 13; refine (HPL.out _ _ (by omega)).mono ?_; rintro e wp ⟨rfl, hw9⟩; have hw8 := hw9.symm; subst hw8; clear hw9; (first | rw [HPA.out] | rw [HPB.out])) | (go_at_call 6; refine (awake15 _ (HLV.out.below HB.out)).mono ?_; rintro e wz ⟨rfl, hb⟩; replace HB := hide (bel_next HB.out hb); clear hb))
          all_goals first | (go_ret; exact ⟨rfl, HB.out⟩) | (exfalso; simp_all; done)
        · have qa := eqK a ⟨#[]⟩
          rw [decide_eq_false h4] at qa
          have qb := eqK b ⟨#[]⟩
          rw [decide_eq_false h5] at qb
          go_wp2_with (first | (go_at_call 12; refine (HNM.out _ _ (by omega)).mono ?_; rintro e wn ⟨rfl, hb⟩; replace HB := hide (bel_next HB.out hb); clear hb; (first | rw [HNA.out] | rw [HNB.out])) | (go_at_call 13; refine (HPL.out _ _ (by omega)).mono ?_; rintro e wp ⟨rfl, hw9⟩; have hw8 := hw9.symm; subst hw8; clear hw9; (first | rw [HPA.out] | rw [HPB.out])) | (go_at_call 6; refine (awake15 _ (HLV.out.below HB.out)).mono ?_; rintro e wz ⟨rfl, hb⟩; replace HB := hide (bel_next HB.out hb); clear hb))
          all_goals first | (go_ret; exact ⟨rfl, HB.out⟩) | (exfalso; simp_all; done)
        · have qa := eqK a ⟨#[]⟩
          rw [decide_eq_false h4] at qa
          have qb := eqK b ⟨#[]⟩
          rw [decide_eq_false h5] at qb
          have HPA := hide h8
          clear h8
          go_wp2_with (first | (go_at_call 12; refine (HNM.out _ _ (by omega)).mono ?_; rintro e wn ⟨rfl, hb⟩; replace HB := hide (bel_next HB.out hb); clear hb; (first | rw [HNA.out] | rw [HNB.out])) | (go_at_call 13; refine (HPL.out _ _ (by omega)).mono ?_; rintro e wp ⟨rfl, hw9⟩; have hw8 := hw9.symm; subst hw8; clear hw9; (first | rw [HPA.out] | rw [HPB.out])) | (go_at_call 6; refine (awake15 _ (HLV.out.below HB.out)).mono ?_; rintro e wz ⟨rfl, hb⟩; replace HB := hide (bel_next HB.out hb); clear hb))
          all_goals first | (go_ret; exact ⟨rfl, HB.out⟩) | (exfalso; simp_all; done)
        · have qa := eqK a ⟨#[]⟩
          rw [decide_eq_false h4] at qa
          have qb := eqK b ⟨#[]⟩
          rw [decide_eq_false h5] at qb
          have HPA := hide h8
          have HPB := hide h9
          clear h8 h9
          go_wp2_with (first | (go_at_call 12; refine (HNM.out _ _ (by omega)).mono ?_; rintro e wn ⟨rfl, hb⟩; replace HB := hide (bel_next HB.out hb); clear hb; (first | rw [HNA.out] | rw [HNB.out])) | (go_at_call 13; refine (HPL.out _ _ (by omega)).mono ?_; rintro e wp ⟨rfl, hw9⟩; have hw8 := hw9.symm; subst hw8; clear hw9; (first | rw [HPA.out] | rw [HPB.out])) | (go_at_call 6; refine (awake15 _ (HLV.out.below HB.out)).mono ?_; rintro e wz ⟨rfl, hb⟩; replace HB := hide (bel_next HB.out hb); clear hb))
          all_goals first | (go_ret; exact ⟨rfl, HB.out⟩) | (exfalso; simp_all; done)
      · rw [Bool.not_eq_true] at hna
        have HNA := hide hna
        have HNB : Hid (nameB b = nameB b) := rfl
        clear hna hnn
        rcases hk with h3 | ⟨h3, h4⟩ | ⟨h3, h4, h5⟩ | ⟨h3, h4, h5, h6⟩ | ⟨h3, h4, h5, h6, h7⟩ | ⟨h3, h4, h5, h6, h7, h8⟩ | ⟨h3, h4, h5, h6, h7, h8, h9⟩
        · go_wp2_with (first | (go_at_call 12; refine (HNM.out _ _ (by omega)).mono ?_; rintro e wn ⟨rfl, hb⟩; replace HB := hide (bel_next HB.out hb); clear hb; (first | rw [HNA.out] | rw [HNB.out])) | (go_at_call 13; refine (HPL.out _ _ (by omega)).mono ?_; rintro e wp ⟨rfl, hw9⟩; have hw8 := hw9.symm; subst hw8; clear hw9; (first | rw [HPA.out] | rw [HPB.out])) | (go_at_call 6; refine (awake15 _ (HLV.out.below HB.out)).mono ?_; rintro e wz ⟨rfl, hb⟩; replace HB := hide (bel_next HB.out hb); clear hb))
          all_goals first | (go_ret; exact ⟨rfl, HB.out⟩) | (exfalso; simp_all; done)
        · have qa := eqK a ⟨#[]⟩
          rw [decide_eq_true h4] at qa
          clear h4
          go_wp2_with (first | (go_at_call 12; refine (HNM.out _ _ (by omega)).mono ?_; rintro e wn ⟨rfl, hb⟩; replace HB := hide (bel_next HB.out hb); clear hb; (first | rw [HNA.out] | rw [HNB.out])) | (go_at_call 13; refine (HPL.out _ _ (by omega)).mono ?_; rintro e wp ⟨rfl, hw9⟩; have hw8 := hw9.symm; subst hw8; clear hw9; (first | rw [HPA.out] | rw [HPB.out])) | (go_at_call 6; refine (awake15 _ (HLV.out.below HB.out)).mono ?_; rintro e wz ⟨rfl, hb⟩; replace HB := hide (bel_next HB.out hb); clear hb))
          all_goals first | (go_ret; exact ⟨rfl, HB.out⟩) | (exfalso; simp_all; done)
        · have qa := eqK a ⟨#[]⟩
          rw [decide_eq_false h4] at qa
          have qb := eqK b ⟨#[]⟩
          rw [decide_eq_true h5] at qb
          clear h5
          go_wp2_with (first | (go_at_call 12; refine (HNM.out _ _ (by omega)).mono ?_; rintro e wn ⟨rfl, hb⟩; replace HB := hide (bel_next HB.out hb); clear hb; (first | rw [HNA.out] | rw [HNB.out])) | (go_at_call 13; refine (HPL.out _ _ (by omega)).mono ?_; rintro e wp ⟨rfl, hw9⟩; have hw8 := hw9.symm; subst hw8; clear hw9; (first | rw [HPA.out] | rw [HPB.out])) | (go_at_call 6; refine (awake15 _ (HLV.out.below HB.out)).mono ?_; rintro e wz ⟨rfl, hb⟩; replace HB := hide (bel_next HB.out hb); clear hb))
          all_goals first | (go_ret; exact ⟨rfl, HB.out⟩) | (exfalso; simp_all; done)
        · have qa := eqK a ⟨#[]⟩
          rw [decide_eq_false h4] at qa
          have qb := eqK b ⟨#[]⟩
          rw [decide_eq_false h5] at qb
          go_wp2_with (first | (go_at_call 12; refine (HNM.out _ _ (by omega)).mono ?_; rintro e wn ⟨rfl, hb⟩; replace HB := hide (bel_next HB.out hb); clear hb; (first | rw [HNA.out] | rw [HNB.out])) | (go_at_call 13; refine (HPL.out _ _ (by omega)).mono ?_; rintro e wp ⟨rfl, hw9⟩; have hw8 := hw9.symm; subst hw8; clear hw9; (first | rw [HPA.out] | rw [HPB.out])) | (go_at_call 6; refine (awake15 _ (HLV.out.below HB.out)).mono ?_; rintro e wz ⟨rfl, hb⟩; replace HB := hide (bel_next HB.out hb); clear hb))
          all_goals first | (go_ret; exact ⟨rfl, HB.out⟩) | (exfalso; simp_all; done)
        · have qa := eqK a ⟨#[]⟩
          rw [decide_eq_false h4] at qa
          have qb := eqK b ⟨#[]⟩
          rw [decide_eq_false h5] at qb
          go_wp2_with (first | (go_at_call 12; refine (HNM.out _ _ (by omega)).mono ?_; rintro e wn ⟨rfl, hb⟩; replace HB := hide (bel_next HB.out hb); clear hb; (first | rw [HNA.out] | rw [HNB.out])) | (go_at_call 13; refine (HPL.out _ _ (by omega)).mono ?_; rintro e wp ⟨rfl, hw9⟩; have hw8 := hw9.symm; subst hw8; clear hw9; (first | rw [HPA.out] | rw [HPB.out])) | (go_at_call 6; refine (awake15 _ (HLV.out.below HB.out)).mono ?_; rintro e wz ⟨rfl, hb⟩; replace HB := hide (bel_next HB.out hb); clear hb))
          all_goals first | (go_ret; exact ⟨rfl, HB.out⟩) | (exfalso; simp_all; done)
        · have qa := eqK a ⟨#[]⟩
          rw [decide_eq_false h4] at qa
          have qb := eqK b ⟨#[]⟩
          rw [decide_eq_false h5] at qb
          have HPA := hide h8
          clear h8
          go_wp2_with (first | (go_at_call 12; refine (HNM.out _ _ (by omega)).mono ?_; rintro e wn ⟨rfl, hb⟩; replace HB := hide (bel_next HB.out hb); clear hb; (first | rw [HNA.out] | rw [HNB.out])) | (go_at_call 13; refine (HPL.out _ _ (by omega)).mono ?_; rintro e wp ⟨rfl, hw9⟩; have hw8 := hw9.symm; subst hw8; clear hw9; (first | rw [HPA.out] | rw [HPB.out])) | (go_at_call 6; refine (awake15 _ (HLV.out.below HB.out)).mono ?_; rintro e wz ⟨rfl, hb⟩; replace HB := hide (bel_next HB.out hb); clear hb))
          all_goals first | (go_ret; exact ⟨rfl, HB.out⟩) | (exfalso; simp_all; done)
        · have qa := eqK a ⟨#[]⟩
          rw [decide_eq_false h4] at qa
          have qb := eqK b ⟨#[]⟩
          rw [decide_eq_false h5] at qb
          have HPA := hide h8
          have HPB := hide h9
          clear h8 h9
          go_wp2_with (first | (go_at_call 12; refine (HNM.out _ _ (by omega)).mono ?_; rintro e wn ⟨rfl, hb⟩; replace HB := hide (bel_next HB.out hb); clear hb; (first | rw [HNA.out] | rw [HNB.out])) | (go_at_call 13; refine (HPL.out _ _ (by omega)).mono ?_; rintro e wp ⟨rfl, hw9⟩; have hw8 := hw9.symm; subst hw8; clear hw9; (first | rw [HPA.out] | rw [HPB.out])) | (go_at_call 6; refine (awake15 _ (HLV.out.below HB.out)).mono ?_; rintro e wz ⟨rfl, hb⟩; replace HB := hide (bel_next HB.out hb); clear hb))
          all_goals first | (go_ret; exact ⟨rfl, HB.out⟩) | (exfalso; simp_all; done)

/-! ### The row's step -/
theorem door_met (os : Os) (args : Array Value) : laidMetH Tryd.prog Rows.parseOneRow.laid ((World.doorLaid Tryd.prog 400 os).forCall (fun _ _ => 0) ⟨#[], args, []⟩).memory :=
  laidMetH_of_parts3 (fuel := 8) (laidMet_of_run' 8 (by kernel_rfl) (by kernel_rfl)) (by kernel_rfl) (by kernel_rfl)
set_option maxRecDepth 100000 in
theorem lifted (os : Os) (started : os.Started) (H : Type) (enc : TypeId × Value → H) :
    ReturnsInHanded {} Tryd.checked os 5 .any (fun w args => (Rows.parseOneSpec.pre enc Tryd.prog Tryd.f5 Rows.parseOneRow.domain false w args ∧ laidMetH Tryd.prog Rows.parseOneRow.laid w) ∧ sizedMet enc Tryd.prog Tryd.f5 (OpenSpec.ofChange Rows.parseOneSpec) false w args) (Rows.parseOneSpec.post enc Tryd.prog Tryd.f5 false true false false) := by
  refine returnsInHanded_of_change_and (C := Tryd.checked) (X := fun w _ => laidMetH Tryd.prog Rows.parseOneRow.laid w) (fun _ _ _ hh h => h.of_heap hh) own started (by kernel_rfl) Tryd.func5
    (ChangeSpec.witness_shaped (enc := enc) (C := Tryd.checked) (os := os) (X := fun w _ => laidMetH Tryd.prog Rows.parseOneRow.laid w) false (World.doorLaid Tryd.prog 400 os) #[.string ⟨#[]⟩, .string ⟨#[]⟩, .int .u8 0] 8 rfl (World.shaped_of_RefB (by kernel_rfl) (by kernel_rfl)) (by kernel_rfl) (by kernel_rfl) (by kernel_rfl) (door_met os _)) ?_
  intro W base args ds gs before hval0 hW hcnd hz0 hL _
  have hval : ∀ (j : Nat) t v, Tryd.f5.params[j]? = some t → args[j]? = some v → Value.okWide Tryd.prog W .any base t v := hval0
  have hz : (DataW.weightsEach Tryd.prog (Tryd.f5.params.toList ++ Rows.parseOneSpec.plain.varTypes Tryd.prog) (ds ++ gs)).all (· ≤ reachBytes) = true := hz0
  have hW' := hW
  obtain ⟨p, q, hA0, hV, rfl, hfz, hnd⟩ := hW
  have hA : DataW.TrodAll enc Tryd.prog W 0 (fun _ => true) true Tryd.f5.params.toList args.toList ds p := hA0
  rw [Tryd.params5] at hA hval hz
  obtain ⟨v0, vs0, d0, ds0, p0, q0, hargs, rfl, rfl, h0, r0⟩ := trodAll_cons hA
  obtain ⟨v1, vs1, d1, ds1, p1, q1, rfl, rfl, rfl, h1, r1⟩ := trodAll_cons r0
  obtain ⟨v2, vs2, d2, ds2, p2, q2, rfl, rfl, rfl, h2, r2⟩ := trodAll_cons r1
  obtain ⟨rfl, rfl, rfl⟩ := trodAll_nil r2
  obtain rfl : args = #[v0, v1, v2] := by cases args; simp_all
  obtain ⟨rfl, rfl⟩ := trodVars_none hV
  have k0 := h0
  have lt0 : ∀ x ∈ p0, x.block < W.heap.size := by obtain ⟨m, hm⟩ := k0; exact DataW.trod_lt m _ _ _ hm
  have w0 : InS15 W v0 := in_str15 (hval 0 9 v0 rfl rfl) h0 (fun n hn => by have := List.all_eq_true.1 hz n (DataW.weights_mem_each (j := 0) (t := 9) rfl rfl n hn); simpa using this)
  have k1 := h1
  have lt1 : ∀ x ∈ p1, x.block < W.heap.size := by obtain ⟨m, hm⟩ := k1; exact DataW.trod_lt m _ _ _ hm
  have w1 : InS15 W v1 := in_str15 (hval 1 9 v1 rfl rfl) h1 (fun n hn => by have := List.all_eq_true.1 hz n (DataW.weights_mem_each (j := 1) (t := 9) rfl rfl n hn); simpa using this)
  obtain ⟨a2, rfl, rfl, rfl, w2⟩ := open_int Tryd.underlying5 (hval 2 5 v2 rfl rfl) h2
  clear hA0 hval0 hz0
  refine (walk v0 v1 a2 W w0 w1 w2 (lv_of hL)).mono fun e W' ⟨he, bel⟩ => ?_
  subst he
  exact ⟨_, rfl, _, _, _, [], _, [], hW', trodAll_mk1 (shut_bool Tryd.underlying4 _), (trodAll_cons_mk (Below.trod laidOut (by kernel_rfl) (of_decide_eq_true (by kernel_rfl)) k0 bel lt0) (trodAll_cons_mk (Below.trod laidOut (by kernel_rfl) (of_decide_eq_true (by kernel_rfl)) k1 bel lt1) (trodAll_cons_mk (shut_int Tryd.underlying5 w2) trodAll_mk0))), rfl, bel.frame _, fun h => by cases h⟩

theorem over : Rows.parseOneRow.holds Tryd.pinned (OpenSpec.ofChange Rows.parseOneSpec) :=
  OpenClaim.holds_of_wide 5 Tryd.f5 rfl rfl rfl rfl rfl rfl rfl ⟨rfl, rfl, rfl, rfl, rfl⟩ rfl rfl rfl rfl rfl (by kernel_rfl) Tryd.func5 (by kernel_rfl)
    (of_decide_eq_true (by kernel_rfl)) (by unfold Func.isWrapper; first | (rw [if_pos (by decide +kernel)]; kernel_rfl) | (rw [if_neg (by decide +kernel)]; exact ⟨rfl, rfl⟩))
    (fun os started H enc _ => lifted os started H enc)
end Go.Proofs.YtadmibfnjhockaaDoor.parseOne
namespace Go.Proofs.YtadmibfnjhockaaDoor
open Go
theorem parseOne_plain (f : FuncId) (fn : Func) (hf : Tryd.pinned.checked.prog.funcNamed "huckster/hucksterlaw15.ParseOne" = some f) (hfn : Tryd.pinned.checked.prog.funcs[f]? = some fn) :
    true = Tryd.pinned.checked.prog.looks [] ∧ ∀ (j : Nat) t, fn.params[j]? = some t → Tryd.pinned.checked.prog.wantsStandIn t = false := by
  obtain rfl : f = 5 := Option.some.inj ((show Tryd.prog.funcNamed "huckster/hucksterlaw15.ParseOne" = some 5 by kernel_rfl).symm.trans hf) |>.symm
  obtain rfl : fn = Tryd.f5 := (Option.some.inj (Tryd.func5.symm.trans hfn)).symm
  refine ⟨by kernel_rfl, fun j t ht => ?_⟩
  rw [Tryd.params5] at ht
  have hm : t ∈ [9, 9, 5] := by simpa using Array.mem_of_getElem? ht
  have hall : ([9, 9, 5].all fun u => !Tryd.prog.wantsStandIn u) = true := by kernel_rfl
  exact (show Tryd.prog.wantsStandIn t = false by simpa using List.all_eq_true.1 hall t hm)
/-- The tied card. -/
theorem parseOne_holds : Rows.ParseOneCardSaid :=
  Claim7.holds_tied_plain_at .later [] _ _ _ _ parseOne.over (fun _ h => by cases h) (by kernel_rfl) (fun _ h => by cases h) parseOne_row_tie rfl ⟨rfl, rfl⟩ (by kernel_rfl) rfl parseOne_plain (by kernel_rfl)
end Go.Proofs.YtadmibfnjhockaaDoor
