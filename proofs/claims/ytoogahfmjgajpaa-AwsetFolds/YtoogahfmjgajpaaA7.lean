/- What the program adds and drops (layer 8). -/
import Derived.Test.YtoogahfmjgajpaaA6
import Derived.Test.YtoogahfmjgajpaaAB4
namespace Go.Proofs.Ytoogahfmjgajpaa
open Go.RowKit Go.Lib
set_option linter.unusedVariables false
set_option maxHeartbeats 2000000 in
theorem Add_bad (a : Option Addr) (n cap : Nat) (s : List En) (t : ByteArray) (r q : Int) (pa : Option Addr) (na ca : Nat) (c : List Int) (w : World) (hA : NSS w a n s) (hcp : CP a n cap) (hP : NS w pa na c) (hno : (mayS s && mayK t && mayD (r, q) && mayC c) = false) : Calls Try.prog 9 #[.slice a n cap, .string t, .agg #[.int .i64 r, .int .i64 q], .slice pa na ca] w fun e w' => e = .returned (.tuple #[.slice none 0 0, .int .i64 1]) ∧ Below w.heap.size w w' := by
  have HV := hide hA
  have HP := hide hP
  clear hA hP
  have HNO := hide hno
  clear hno
  have BB := hide (bel1 w (.cells #[.int .i64 r, .int .i64 q] 24))
  have d0 := cell_new w #[.int .i64 r, .int .i64 q] 24 _ rfl 0 _ rfl
  have d1 := cell_new w #[.int .i64 r, .int .i64 q] 24 _ rfl 1 _ rfl
  rcases hx : mayS s with _ | _
  · have HC1 : Hid (chkS s = 1) := by unfold Hid chkS; rw [hx]; rfl
    clear hx
    go_enter Try.func9, Try.ntmps9
    go_wp2_with (first | (go_at_call 14; refine (Check_any a n cap s _ (HV.out.below BB.out)).mono ?_; rintro e w1 ⟨rfl, hb⟩; rw [HC1.out]; replace BB := hide (bel_next BB.out hb); try replace d0 := bcell hb d0; try replace d1 := bcell hb d1; clear hb))
    go_ret2
    exact ⟨rfl, BB.out⟩
  · have HC1 : Hid (chkS s = 0) := by unfold Hid chkS; rw [hx]; rfl
    have HMS := hide hx
    clear hx
    rcases hx : mayK t with _ | _
    · have HK1 := hide hx
      clear hx
      go_enter Try.func9, Try.ntmps9
      go_wp2_with (first | (go_at_call 14; refine (Check_any a n cap s _ (HV.out.below BB.out)).mono ?_; rintro e w1 ⟨rfl, hb⟩; rw [HC1.out]; replace BB := hide (bel_next BB.out hb); try replace d0 := bcell hb d0; try replace d1 := bcell hb d1; clear hb) | (go_at_call 28; refine (mayBeKey_any t _).mono ?_; rintro e w1 ⟨rfl, hb⟩; rw [HK1.out]; replace BB := hide (bel_next BB.out hb); try replace d0 := bcell hb d0; try replace d1 := bcell hb d1; clear hb))
      go_ret2
      exact ⟨rfl, BB.out⟩
    · have HK1 := hide hx
      have HMT := hide hx
      clear hx
      rcases hx : mayD (r, q) with _ | _
      · have HM1 := hide hx
        clear hx
        go_enter Try.func9, Try.ntmps9
        go_wp2_with (first | (go_at_call 14; refine (Check_any a n cap s _ (HV.out.below BB.out)).mono ?_; rintro e w1 ⟨rfl, hb⟩; rw [HC1.out]; replace BB := hide (bel_next BB.out hb); try replace d0 := bcell hb d0; try replace d1 := bcell hb d1; clear hb) | (go_at_call 28; refine (mayBeKey_any t _).mono ?_; rintro e w1 ⟨rfl, hb⟩; rw [HK1.out]; replace BB := hide (bel_next BB.out hb); try replace d0 := bcell hb d0; try replace d1 := bcell hb d1; clear hb) | (go_at_call 29; refine (May_any r q _).mono ?_; rintro e w1 ⟨rfl, hg⟩; rw [show mayD (r, q) = _ from HM1.out]; have hb := hg.bel; clear hg; replace BB := hide (bel_next BB.out hb); try replace d0 := bcell hb d0; try replace d1 := bcell hb d1; clear hb))
        go_ret2
        exact ⟨rfl, BB.out⟩
      · have HM1 := hide hx
        have HMD := hide hx
        clear hx
        rcases hx : mayC c with _ | _
        · have HQ1 : Hid (chk c = 1) := by unfold Hid chk; rw [hx]; rfl
          clear hx
          go_enter Try.func9, Try.ntmps9
          go_wp2_with (first | (go_at_call 14; refine (Check_any a n cap s _ (HV.out.below BB.out)).mono ?_; rintro e w1 ⟨rfl, hb⟩; rw [HC1.out]; replace BB := hide (bel_next BB.out hb); try replace d0 := bcell hb d0; try replace d1 := bcell hb d1; clear hb) | (go_at_call 28; refine (mayBeKey_any t _).mono ?_; rintro e w1 ⟨rfl, hb⟩; rw [HK1.out]; replace BB := hide (bel_next BB.out hb); try replace d0 := bcell hb d0; try replace d1 := bcell hb d1; clear hb) | (go_at_call 29; refine (May_any r q _).mono ?_; rintro e w1 ⟨rfl, hg⟩; rw [show mayD (r, q) = _ from HM1.out]; have hb := hg.bel; clear hg; replace BB := hide (bel_next BB.out hb); try replace d0 := bcell hb d0; try replace d1 := bcell hb d1; clear hb) | (go_at_call 30; refine (check_any pa na ca c _ (HP.out.below BB.out)).mono ?_; rintro e w1 ⟨rfl, rfl⟩; rw [show chk c = _ from HQ1.out]))
          go_ret2
          exact ⟨rfl, BB.out⟩
        · have HQ1 : Hid (chk c = 0) := by unfold Hid chk; rw [hx]; rfl
          clear hx
          exfalso
          have e1 := HNO.out
          have e4 : mayC c = true := by
            have := HQ1.out
            unfold chk at this
            split at this
            · assumption
            · cases this
          rw [HMS.out, HMT.out, HMD.out, e4] at e1
          cases e1
set_option maxHeartbeats 2000000 in
theorem Drop_bad (a : Option Addr) (n cap : Nat) (s : List En) (t : ByteArray) (pa : Option Addr) (na ca : Nat) (c : List Int) (w : World) (hA : NSS w a n s) (hcp : CP a n cap) (hP : NS w pa na c) (hno : (mayS s && mayK t && mayC c) = false) : Calls Try.prog 10 #[.slice a n cap, .string t, .slice pa na ca] w fun e w' => e = .returned (.tuple #[.slice none 0 0, .int .i64 1]) ∧ Below w.heap.size w w' := by
  have HV := hide hA
  have HP := hide hP
  clear hA hP
  have HNO := hide hno
  clear hno
  have BB : Hid (Below w.heap.size w w) := Below.refl _ _
  rcases hx : mayS s with _ | _
  · have HC1 : Hid (chkS s = 1) := by unfold Hid chkS; rw [hx]; rfl
    clear hx
    go_enter Try.func10, Try.ntmps10
    go_wp2_with (first | (go_at_call 14; refine (Check_any a n cap s _ (HV.out.below BB.out)).mono ?_; rintro e w1 ⟨rfl, hb⟩; rw [HC1.out]; replace BB := hide (bel_next BB.out hb); try replace d0 := bcell hb d0; try replace d1 := bcell hb d1; clear hb))
    go_ret2
    exact ⟨rfl, BB.out⟩
  · have HC1 : Hid (chkS s = 0) := by unfold Hid chkS; rw [hx]; rfl
    have HMS := hide hx
    clear hx
    rcases hx : mayK t with _ | _
    · have HK1 := hide hx
      clear hx
      go_enter Try.func10, Try.ntmps10
      go_wp2_with (first | (go_at_call 14; refine (Check_any a n cap s _ (HV.out.below BB.out)).mono ?_; rintro e w1 ⟨rfl, hb⟩; rw [HC1.out]; replace BB := hide (bel_next BB.out hb); try replace d0 := bcell hb d0; try replace d1 := bcell hb d1; clear hb) | (go_at_call 28; refine (mayBeKey_any t _).mono ?_; rintro e w1 ⟨rfl, hb⟩; rw [HK1.out]; replace BB := hide (bel_next BB.out hb); try replace d0 := bcell hb d0; try replace d1 := bcell hb d1; clear hb))
      go_ret2
      exact ⟨rfl, BB.out⟩
    · have HK1 := hide hx
      have HMT := hide hx
      clear hx
      rcases hx : mayC c with _ | _
      · have HQ1 : Hid (chk c = 1) := by unfold Hid chk; rw [hx]; rfl
        clear hx
        go_enter Try.func10, Try.ntmps10
        go_wp2_with (first | (go_at_call 14; refine (Check_any a n cap s _ (HV.out.below BB.out)).mono ?_; rintro e w1 ⟨rfl, hb⟩; rw [HC1.out]; replace BB := hide (bel_next BB.out hb); try replace d0 := bcell hb d0; try replace d1 := bcell hb d1; clear hb) | (go_at_call 28; refine (mayBeKey_any t _).mono ?_; rintro e w1 ⟨rfl, hb⟩; rw [HK1.out]; replace BB := hide (bel_next BB.out hb); try replace d0 := bcell hb d0; try replace d1 := bcell hb d1; clear hb) | (go_at_call 30; refine (check_any pa na ca c _ (HP.out.below BB.out)).mono ?_; rintro e w1 ⟨rfl, rfl⟩; rw [show chk c = _ from HQ1.out]))
        go_ret2
        exact ⟨rfl, BB.out⟩
      · have HQ1 : Hid (chk c = 0) := by unfold Hid chk; rw [hx]; rfl
        clear hx
        exfalso
        have e1 := HNO.out
        have e4 : mayC c = true := by
          have := HQ1.out
          unfold chk at this
          split at this
          · assumption
          · cases this
        rw [HMS.out, HMT.out, e4] at e1
        cases e1
set_option maxHeartbeats 2000000 in
set_option maxRecDepth 100000 in
theorem Drop_good (a : Option Addr) (n cap : Nat) (s : List En) (t : ByteArray) (pa : Option Addr) (na ca : Nat) (c : List Int) (w : World) (hA : NSS w a n s) (hcp : CP a n cap) (hP : NS w pa na c) (h1 : mayS s = true) (h2 : mayK t = true) (h4 : mayC c = true) (hd : ∀ x ∈ s, x.2.1.length ≤ 100000) : Calls Try.prog 10 #[.slice a n cap, .string t, .slice pa na ca] w fun e w' => ∃ p cp, e = .returned (.tuple #[.slice p (dropS s t c).length cp, .int .i64 0]) ∧ NSS w' p (dropS s t c).length (dropS s t c) ∧ CP p (dropS s t c).length cp ∧ Below w.heap.size w w' := by
  have HV := hide hA
  have HP := hide hP
  clear hA hP
  have HCP := hide hcp
  have HMS := hide h1
  have HS := hide (mayS_iff.1 h1).2.1
  have HC1 : Hid (chkS s = 0) := by unfold Hid chkS; rw [h1]; rfl
  have HK1 := hide h2
  have HQ1 : Hid (chk c = 0) := by unfold Hid chk; rw [h4]; rfl
  have HDD := hide hd
  have hn : n ≤ 4000 := by rw [← HV.out.len]; exact (mayS_iff.1 h1).2.2
  have HGL : Hid ((getS s t).length ≤ 100000) := by
    rcases getS_or s t with ⟨e, _⟩ | ⟨x, hx, _, e⟩
    · rw [e]; exact Nat.zero_le _
    · rw [e]; exact hd x hx
  clear h1 h2 h4 hd hcp
  have BB : Hid (Below w.heap.size w w) := Below.refl _ _
  go_enter Try.func10, Try.ntmps10
  go_wp2_with (first | (go_at_call 14; refine (Check_any a n cap s _ (HV.out.below BB.out)).mono ?_; rintro e w1 ⟨rfl, hb⟩; rw [HC1.out]; replace BB := hide (bel_next BB.out hb); try replace d0 := bcell hb d0; try replace d1 := bcell hb d1; clear hb) | (go_at_call 28; refine (mayBeKey_any t _).mono ?_; rintro e w1 ⟨rfl, hb⟩; rw [HK1.out]; replace BB := hide (bel_next BB.out hb); try replace d0 := bcell hb d0; try replace d1 := bcell hb d1; clear hb) | (go_at_call 30; refine (check_any pa na ca c _ (HP.out.below BB.out)).mono ?_; rintro e w1 ⟨rfl, rfl⟩; rw [show chk c = _ from HQ1.out]) | (go_at_call 31; refine (liveOf_any a n cap s t _ (HV.out.below BB.out) HS.out hn).mono ?_; rintro e w2 ⟨⟨pl, nl, cl, rfl, hl1, hl2, _⟩, hb⟩; have HL1 := hide hl1; replace BB := hide (bel_next BB.out hb); try replace d0 := bcell hb d0; try replace d1 := bcell hb d1; clear hb; clear hl1) | (go_at_call 34; refine (unknown_any pl nl cl (getS s t) pa na ca c _ HL1.out (HP.out.below BB.out) (by have := HL1.out.1; have := HGL.out; omega)).mono ?_; rintro e w3 ⟨v3, rfl, ho3, hb⟩; obtain ⟨p3, c3, rfl, hd3, hc3⟩ := ho3.open; have HD3 := hide hd3; have HC3 := hide hc3; replace BB := hide (bel_next BB.out hb); try replace d0 := bcell hb d0; try replace d1 := bcell hb d1; clear hb; clear ho3 hd3 hc3) | (go_at_call 32; refine (with_any a n cap s t _ _ _ _ _ (HV.out.below BB.out) HCP.out HMS.out HD3.out HC3.out (fun x hx => Nat.le_trans (HDD.out x hx) (by decide))).mono ?_; rintro e w4 ⟨v4, rfl, ho4, hb⟩; obtain ⟨p4, c4, rfl, hn4, hc4⟩ := ho4.open; have HN4 := hide hn4; have HC4 := hide hc4; replace BB := hide (bel_next BB.out hb); try replace d0 := bcell hb d0; try replace d1 := bcell hb d1; clear hb; clear ho4 hn4 hc4))
  go_ret2
  exact ⟨p4, c4, rfl, HN4.out, HC4.out, BB.out⟩
set_option maxHeartbeats 400000 in
theorem Has_any (a : Option Addr) (n cap : Nat) (s : List En) (t : ByteArray) (w : World) (hA : NSS w a n s) : Calls Try.prog 21 #[.slice a n cap, .string t] w fun e w' => e = .returned (.bool (mayS s && decide (getS s t ≠ []))) ∧ Below w.heap.size w w' := by
  have HV := hide hA
  clear hA
  have BB : Hid (Below w.heap.size w w) := Below.refl _ _
  rcases hx : mayS s with _ | _
  · have HC1 : Hid (chkS s = 1) := by unfold Hid chkS; rw [hx]; rfl
    clear hx
    go_enter Try.func21, Try.ntmps21
    go_wp2_with ((go_at_call 14; refine (Check_any a n cap s _ (HV.out.below BB.out)).mono ?_; rintro e w1 ⟨rfl, hb⟩; rw [HC1.out]; replace BB := hide (bel_next BB.out hb); try replace d0 := bcell hb d0; try replace d1 := bcell hb d1; clear hb))
    go_ret
    exact ⟨rfl, BB.out⟩
  · have HC1 : Hid (chkS s = 0) := by unfold Hid chkS; rw [hx]; rfl
    have HS := hide (mayS_iff.1 hx).2.1
    have hn : n ≤ 4000 := by rw [← HV.out.len]; exact (mayS_iff.1 hx).2.2
    clear hx
    go_enter Try.func21, Try.ntmps21
    go_wp2_with (first | (go_at_call 14; refine (Check_any a n cap s _ (HV.out.below BB.out)).mono ?_; rintro e w1 ⟨rfl, hb⟩; rw [HC1.out]; replace BB := hide (bel_next BB.out hb); try replace d0 := bcell hb d0; try replace d1 := bcell hb d1; clear hb) | (go_at_call 31; refine (liveOf_any a n cap s t _ (HV.out.below BB.out) HS.out hn).mono ?_; rintro e w2 ⟨⟨pl, nl, cl, rfl, hl1, hl2, _⟩, hb⟩; have HL1 := hide hl1; replace BB := hide (bel_next BB.out hb); try replace d0 := bcell hb d0; try replace d1 := bcell hb d1; clear hb; clear hl1))
    go_ret
    refine ⟨?_, BB.out⟩
    have hl := HL1.out.1
    rcases hg : getS s t with _ | ⟨x, l⟩
    · rw [hg] at hl; simp at hl; subst hl; rfl
    · rw [hg] at hl; simp at hl; subst hl; simp
end Go.Proofs.Ytoogahfmjgajpaa
