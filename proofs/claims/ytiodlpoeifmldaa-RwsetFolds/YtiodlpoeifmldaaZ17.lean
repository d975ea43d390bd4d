/- layer 9's awake. -/
import Derived.Test.YtiodlpoeifmldaaZ15
import Derived.Test.YtiodlpoeifmldaaC2
namespace Go.Proofs.Ytiodlpoeifmldaa
open Go.RowKit Go.ChangeShapes Go.WideShapes
set_option linter.unusedVariables false
theorem putP_one (p p' : Pr) : putP [(kk, p)] kk p' = if p' = ([], []) then [] else [(kk, p')] := by simp [putP, ltK_irr]
set_option maxRecDepth 100000 in
set_option maxHeartbeats 2000000 in
theorem awake9 (w : World) : Calls Try.prog 8 #[] w fun e w' => e = .returned (.bool true) ∧ Below w.heap.size w w' := by
  obtain ⟨A, hA⟩ : ∃ x, x = addP [] kk (1, 1) [] := ⟨_, rfl⟩
  obtain ⟨T, hT⟩ : ∃ x, x = dropP A kk (2, 1) [] := ⟨_, rfl⟩
  obtain ⟨U, hU⟩ : ∃ x, x = addP T kk (1, 2) [1, 1] := ⟨_, rfl⟩
  have eA : A = [(kk, [(1, 1)], [])] := by rw [hA]; decide
  have eT : T = [(kk, [], [(2, 1)])] := by
    rw [hT, eA, dropP, putP_one, show putD (leftD (getP [(kk, [(1, 1)], [])] kk).2 []) (2, 1) = [(2, 1)] by decide]
    rfl
  have eU : U = [(kk, [(1, 2)], [(2, 1)])] := by
    rw [hU, eT, addP, putP_one, if_pos (by decide), show putD (leftD (getP [(kk, [], [(2, 1)])] kk).1 [1, 1]) (1, 2) = [(1, 2)] by decide]
    rfl
  have hmA : mayS9 A = true := by rw [eA]; decide
  have hmT : mayS9 T = true := by rw [eT]; decide
  have H1 : Hid ((mayS9 A && decide ((getP A kk).1 ≠ [])) = true) := by unfold Hid; rw [eA]; decide
  have H2 : Hid ((mayS9 T && decide ((getP T kk).1 ≠ [])) = false) := by unfold Hid; rw [eT]; decide
  have H3 : Hid ((mayS9 U && decide ((getP U kk).1 ≠ [])) = true) := by unfold Hid; rw [eU]; decide
  have dA : ∀ x ∈ A, x.2.1.length ≤ 900000 ∧ x.2.2.length ≤ 900000 := by rw [eA]; intro x hx; rw [List.mem_singleton] at hx; subst hx; decide
  have dT : ∀ x ∈ T, x.2.1.length ≤ 900000 ∧ x.2.2.length ≤ 900000 := by rw [eT]; intro x hx; rw [List.mem_singleton] at hx; subst hx; decide
  have dU : ∀ x ∈ U, x.2.1.length ≤ 900000 ∧ x.2.2.length ≤ 900000 := by rw [eU]; intro x hx; rw [List.mem_singleton] at hx; subst hx; decide
  have lA : A.length = 1 := by rw [eA]; rfl
  have lT : T.length = 1 := by rw [eT]; rfl
  have HA := hide (Add9_good none 0 0 [] kk 1 1 none 0 0 [] w (NSS.nil _ _) (NS.nil _ _) (by decide) (fun x hx => by cases hx) (by decide))
  rw [← hA] at HA
  have HD : Hid (∀ (p : Option Addr) (n cap : Nat) (W : World), NSS W p n A → Calls Try.prog 10 #[.slice p n cap, .string kk, .agg #[.int .i64 2, .int .i64 1], .slice none 0 0] W fun e w' => ∃ p cp, e = .returned (.tuple #[.slice p T.length cp, .int .i64 0]) ∧ NSS w' p T.length T ∧ CP p T.length cp ∧ Below W.heap.size W w') := fun p n cap W h1 => by rw [hT]; exact Drop9_good p n cap A kk 2 1 none 0 0 [] W h1 (NS.nil _ _) (by rw [done9_iff]; exact ⟨hmA, by decide, by decide, by decide⟩) dA (by have := h1.len; omega)
  have HU : Hid (∀ (p pa : Option Addr) (n cap na ca : Nat) (W : World), NSS W p n T → NS W pa na [1, 1] → Calls Try.prog 9 #[.slice p n cap, .string kk, .agg #[.int .i64 1, .int .i64 2], .slice pa na ca] W fun e w' => ∃ p cp, e = .returned (.tuple #[.slice p U.length cp, .int .i64 0]) ∧ NSS w' p U.length U ∧ CP p U.length cp ∧ Below W.heap.size W w') := fun p pa n cap na ca W h1 h3 => by rw [hU]; exact Add9_good p n cap T kk 1 2 pa na ca [1, 1] W h1 h3 (by rw [done9_iff]; exact ⟨hmT, by decide, by decide, by decide⟩) dT (by have := h1.len; omega)
  have DA := hide dA
  have DT := hide dT
  have DU := hide dU
  clear hA hT hU eA eT eU hmA hmT dA dT dU lA lT
  generalize A.length = nA at *
  generalize T.length = nT at *
  generalize U.length = nU at *
  go_enter Try.func8, Try.ntmps8
  go_upto_region 2 with (go_at_call 9; refine HA.out.mono ?_; rintro e w1 ⟨p1, c1, rfl, hn1, hc1, hb⟩; have HN1 := hide hn1; have BB := hide hb; clear hn1 hc1 hb HA)
  go_upto_region 3 with (go_at_call 10; refine (HD.out p1 nA c1 _ HN1.out).mono ?_; rintro e w2 ⟨p2, c2, rfl, hn2, hc2, hb⟩; have HN2 := hide hn2; replace HN1 := hide (HN1.out.below hb); replace BB := hide (bel_next BB.out hb); clear hn2 hc2 hb HD)
  go_upto_region 4 with (go_at_call 9; refine (HU.out p2 _ nT c2 _ _ _ (HN2.out.below (bel1 _ _)) (NS.new w2 _ rfl [1, 1] _ (by simp) _ _ 2 rfl (by decide))).mono ?_; rintro e w3 ⟨p3, c3, rfl, hn3, hc3, hb⟩; have HN3 := hide hn3; replace HN1 := hide (HN1.out.below (bel_next (bel1 _ _) hb)); replace HN2 := hide (HN2.out.below (bel_next (bel1 _ _) hb)); replace BB := hide (bel_next BB.out (bel_next (bel1 _ _) hb)); clear hn3 hc3 hb HU)
  go_wp2_with (go_at_call 22; refine (Has9_any p1 nA c1 A kk _ HN1.out DA.out).mono ?_; rintro e w4 ⟨rfl, hb⟩; rw [H1.out]; replace HN2 := hide (HN2.out.below hb); replace HN3 := hide (HN3.out.below hb); replace BB := hide (bel_next BB.out hb); clear hb; refine Stop.at ?_)
  unfold Stop
  go_wp2_with (go_at_call 22; refine (Has9_any p2 nT c2 T kk _ HN2.out DT.out).mono ?_; rintro e w5 ⟨rfl, hb⟩; rw [H2.out]; replace HN3 := hide (HN3.out.below hb); replace BB := hide (bel_next BB.out hb); clear hb; refine Stop.at ?_)
  unfold Stop
  go_wp2_with (go_at_call 22; refine (Has9_any p3 nU c3 U kk _ HN3.out DU.out).mono ?_; rintro e w6 ⟨rfl, hb⟩; rw [H3.out])
  go_ret
  exact ⟨rfl, bel_next BB.out hb⟩
end Go.Proofs.Ytiodlpoeifmldaa
