/- Any set with an add, or a drop, of any key is as the document says (layer 9). -/
import Derived.Test.YtiodlpoeifmldaaRows
import Derived.WalkKit
import Derived.ProofKit
import Derived.OpenShut
import Derived.ShutString
import Derived.ChangeOld
import Derived.Below
import Derived.SizedLaws
import Derived.Test.YtiodlpoeifmldaaZ17
import Derived.Test.YtiodlpoeifmldaaZ12
import Derived.Test.YtiodlpoeifmldaaZ16
import Derived.Test.YtiodlpoeifmldaaB5
namespace Go.Proofs.Ytiodlpoeifmldaa.rwsetTurns
open Go.ChangeShapes Go.WideShapes Go.ChangeAt Go.RowKit
set_option linter.unusedVariables false

theorem own : ownKnob Try.prog.godebug = none := by kernel_rfl
theorem laidOut : laidOutB Try.prog = true := by kernel_rfl

set_option maxHeartbeats 8000000 in
theorem walk (v0 : Value) (v1 : Value) (w : World) (w0 : InNs w v0) (w1 : InDd w v1) :
    Calls Try.prog 3 #[v0, v1] w fun e w' => e = .returned (.bool true) ∧ Below w.heap.size w w' := by
  obtain ⟨a, n, cap, s, rfl, hA, hcp⟩ := w0
  obtain ⟨t, r, q, pa, na, ca, c, rfl, hP, _⟩ := w1
  have HV := hide hA
  have HCP := hide hcp
  have HP := hide hP
  have BB := hide (bel1 w (.cells #[.string t, .int .i64 r, .int .i64 q, .slice pa na ca] 28))
  have b0 := cell_new w #[.string t, .int .i64 r, .int .i64 q, .slice pa na ca] 28 _ rfl 0 _ rfl
  have b1 := cell_new w #[.string t, .int .i64 r, .int .i64 q, .slice pa na ca] 28 _ rfl 1 _ rfl
  have b2 := cell_new w #[.string t, .int .i64 r, .int .i64 q, .slice pa na ca] 28 _ rfl 2 _ rfl
  have b3 := cell_new w #[.string t, .int .i64 r, .int .i64 q, .slice pa na ca] 28 _ rfl 3 _ rfl
  have HLEN := hide hA.len
  clear hA hcp hP
  go_enter Try.func3, Try.ntmps3
  go_wp2_with (go_at_call 7; refine (light8 a n cap s _ (HV.out.below BB.out)).mono ?_; rintro e w1 ⟨bl, rfl, hl, rfl⟩; refine Stop.at ?_)
  unfold Stop
  generalize hwb : w.alloc (.cells #[.string t, .int .i64 r, .int .i64 q, .slice pa na ca] 28) = wb at *
  clear hwb
  cases bl
  · clear hl
    go_wp2_with (go_at_call 8; refine (awake9 _).mono ?_; rintro e wz ⟨rfl, hb⟩)
    go_ret
    exact ⟨rfl, bel_next BB.out hb⟩
  · obtain ⟨hn30, hfew⟩ := hl rfl
    have HFW : Hid (∀ x ∈ s, x.2.1.length ≤ 900000 ∧ x.2.2.length ≤ 900000) := fun x hx => ⟨Nat.le_trans (hfew x hx).2.1 (by decide), Nat.le_trans (hfew x hx).2.2 (by decide)⟩
    have HFW9 : Hid (∀ x ∈ s, x.2.1.length ≤ 90000 ∧ x.2.2.length ≤ 90000) := fun x hx => ⟨Nat.le_trans (hfew x hx).2.1 (by decide), Nat.le_trans (hfew x hx).2.2 (by decide)⟩
    have HFM : Hid (∀ x ∈ s, x.2.1.length ≤ 100000 ∧ x.2.2.length ≤ 100000) := fun x hx => ⟨Nat.le_trans (hfew x hx).2.1 (by decide), Nat.le_trans (hfew x hx).2.2 (by decide)⟩
    clear hl hfew
    by_cases h1 : (t.size : Int) ≤ 100
    · by_cases h2 : (na : Int) ≤ 20
      · rcases hs : mayS9 s with _ | _
        · have HS1 := hide hs
          have HX1 := hide (chk9_no hs)
          have HNA : Hid (done9 s t (r, q) c = false) := by unfold Hid done9; rw [hs]; rfl
          clear hs
          go_wp2_with (first | (go_at_call 9; refine (Add9_bad a n cap s t r q pa na ca c _ (HV.out.below BB.out) (HP.out.below BB.out) HNA.out).mono ?_; rintro e wy ⟨rfl, hb⟩; (try replace HN2 := hide (HN2.out.below hb)); (try replace HN3 := hide (HN3.out.below hb)); (try replace HN5 := hide (HN5.out.below hb)); replace BB := hide (bel_next BB.out hb); (try replace b0 := bcell hb b0); (try replace b1 := bcell hb b1); (try replace b2 := bcell hb b2); (try replace b3 := bcell hb b3); clear hb) | (go_at_call 10; refine (Drop9_bad a n cap s t r q pa na ca c _ (HV.out.below BB.out) (HP.out.below BB.out) HNA.out).mono ?_; rintro e wy ⟨rfl, hb⟩; (try replace HN2 := hide (HN2.out.below hb)); (try replace HN3 := hide (HN3.out.below hb)); (try replace HN5 := hide (HN5.out.below hb)); replace BB := hide (bel_next BB.out hb); (try replace b0 := bcell hb b0); (try replace b1 := bcell hb b1); (try replace b2 := bcell hb b2); (try replace b3 := bcell hb b3); clear hb) | (go_at_call 12; refine (May9_ref a n cap s _ (HV.out.below BB.out) HFM.out).mono ?_; rintro e wy ⟨rfl, hb⟩; rw [HS1.out]; (try replace HN2 := hide (HN2.out.below hb)); (try replace HN3 := hide (HN3.out.below hb)); (try replace HN5 := hide (HN5.out.below hb)); replace BB := hide (bel_next BB.out hb); (try replace b0 := bcell hb b0); (try replace b1 := bcell hb b1); (try replace b2 := bcell hb b2); (try replace b3 := bcell hb b3); clear hb) | (go_at_call 11; refine (chk9_any a n cap s _ (HV.out.below BB.out)).mono ?_; rintro e wy ⟨rfl, hb⟩; rw [HX1.out]; (try replace HN2 := hide (HN2.out.below hb)); (try replace HN3 := hide (HN3.out.below hb)); (try replace HN5 := hide (HN5.out.below hb)); replace BB := hide (bel_next BB.out hb); (try replace b0 := bcell hb b0); (try replace b1 := bcell hb b1); (try replace b2 := bcell hb b2); (try replace b3 := bcell hb b3); clear hb) | (go_at_call 8; refine (awake9 _).mono ?_; rintro e wz ⟨rfl, hb⟩))
          go_ret
          exact ⟨rfl, bel_next BB.out hb⟩
        · have HS1 := hide hs
          have HX1 := hide (chk9_yes hs)
          rcases hk : mayK t with _ | _
          · have HK1 := hide hk
            have HNA : Hid (done9 s t (r, q) c = false) := by unfold Hid done9; rw [hs, hk]; rfl
            clear hs hk
            go_wp2_with (first | (go_at_call 9; refine (Add9_bad a n cap s t r q pa na ca c _ (HV.out.below BB.out) (HP.out.below BB.out) HNA.out).mono ?_; rintro e wy ⟨rfl, hb⟩; (try replace HN2 := hide (HN2.out.below hb)); (try replace HN3 := hide (HN3.out.below hb)); (try replace HN5 := hide (HN5.out.below hb)); replace BB := hide (bel_next BB.out hb); (try replace b0 := bcell hb b0); (try replace b1 := bcell hb b1); (try replace b2 := bcell hb b2); (try replace b3 := bcell hb b3); clear hb) | (go_at_call 10; refine (Drop9_bad a n cap s t r q pa na ca c _ (HV.out.below BB.out) (HP.out.below BB.out) HNA.out).mono ?_; rintro e wy ⟨rfl, hb⟩; (try replace HN2 := hide (HN2.out.below hb)); (try replace HN3 := hide (HN3.out.below hb)); (try replace HN5 := hide (HN5.out.below hb)); replace BB := hide (bel_next BB.out hb); (try replace b0 := bcell hb b0); (try replace b1 := bcell hb b1); (try replace b2 := bcell hb b2); (try replace b3 := bcell hb b3); clear hb) | (go_at_call 12; refine (May9_ref a n cap s _ (HV.out.below BB.out) HFM.out).mono ?_; rintro e wy ⟨rfl, hb⟩; rw [HS1.out]; (try replace HN2 := hide (HN2.out.below hb)); (try replace HN3 := hide (HN3.out.below hb)); (try replace HN5 := hide (HN5.out.below hb)); replace BB := hide (bel_next BB.out hb); (try replace b0 := bcell hb b0); (try replace b1 := bcell hb b1); (try replace b2 := bcell hb b2); (try replace b3 := bcell hb b3); clear hb) | (go_at_call 13; refine (KeyR_any t _).mono ?_; rintro e wy ⟨rfl, hb⟩; rw [HK1.out]; (try replace HN2 := hide (HN2.out.below hb)); (try replace HN3 := hide (HN3.out.below hb)); (try replace HN5 := hide (HN5.out.below hb)); replace BB := hide (bel_next BB.out hb); (try replace b0 := bcell hb b0); (try replace b1 := bcell hb b1); (try replace b2 := bcell hb b2); (try replace b3 := bcell hb b3); clear hb) | (go_at_call 11; refine (chk9_any a n cap s _ (HV.out.below BB.out)).mono ?_; rintro e wy ⟨rfl, hb⟩; rw [HX1.out]; (try replace HN2 := hide (HN2.out.below hb)); (try replace HN3 := hide (HN3.out.below hb)); (try replace HN5 := hide (HN5.out.below hb)); replace BB := hide (bel_next BB.out hb); (try replace b0 := bcell hb b0); (try replace b1 := bcell hb b1); (try replace b2 := bcell hb b2); (try replace b3 := bcell hb b3); clear hb) | (go_at_call 8; refine (awake9 _).mono ?_; rintro e wz ⟨rfl, hb⟩))
            go_ret
            exact ⟨rfl, bel_next BB.out hb⟩
          · have HK1 := hide hk
            rcases hc : mayC c with _ | _
            · have HC1 := hide hc
              have HNA : Hid (done9 s t (r, q) c = false) := by unfold Hid done9; rw [hc, Bool.and_false]
              clear hs hk hc
              go_wp2_with (first | (go_at_call 9; refine (Add9_bad a n cap s t r q pa na ca c _ (HV.out.below BB.out) (HP.out.below BB.out) HNA.out).mono ?_; rintro e wy ⟨rfl, hb⟩; (try replace HN2 := hide (HN2.out.below hb)); (try replace HN3 := hide (HN3.out.below hb)); (try replace HN5 := hide (HN5.out.below hb)); replace BB := hide (bel_next BB.out hb); (try replace b0 := bcell hb b0); (try replace b1 := bcell hb b1); (try replace b2 := bcell hb b2); (try replace b3 := bcell hb b3); clear hb) | (go_at_call 10; refine (Drop9_bad a n cap s t r q pa na ca c _ (HV.out.below BB.out) (HP.out.below BB.out) HNA.out).mono ?_; rintro e wy ⟨rfl, hb⟩; (try replace HN2 := hide (HN2.out.below hb)); (try replace HN3 := hide (HN3.out.below hb)); (try replace HN5 := hide (HN5.out.below hb)); replace BB := hide (bel_next BB.out hb); (try replace b0 := bcell hb b0); (try replace b1 := bcell hb b1); (try replace b2 := bcell hb b2); (try replace b3 := bcell hb b3); clear hb) | (go_at_call 12; refine (May9_ref a n cap s _ (HV.out.below BB.out) HFM.out).mono ?_; rintro e wy ⟨rfl, hb⟩; rw [HS1.out]; (try replace HN2 := hide (HN2.out.below hb)); (try replace HN3 := hide (HN3.out.below hb)); (try replace HN5 := hide (HN5.out.below hb)); replace BB := hide (bel_next BB.out hb); (try replace b0 := bcell hb b0); (try replace b1 := bcell hb b1); (try replace b2 := bcell hb b2); (try replace b3 := bcell hb b3); clear hb) | (go_at_call 13; refine (KeyR_any t _).mono ?_; rintro e wy ⟨rfl, hb⟩; rw [HK1.out]; (try replace HN2 := hide (HN2.out.below hb)); (try replace HN3 := hide (HN3.out.below hb)); (try replace HN5 := hide (HN5.out.below hb)); replace BB := hide (bel_next BB.out hb); (try replace b0 := bcell hb b0); (try replace b1 := bcell hb b1); (try replace b2 := bcell hb b2); (try replace b3 := bcell hb b3); clear hb) | (go_at_call 14; refine (may_ref pa na ca c _ (HP.out.below BB.out)).mono ?_; rintro e wy ⟨rfl, rfl⟩; rw [HC1.out]) | (go_at_call 11; refine (chk9_any a n cap s _ (HV.out.below BB.out)).mono ?_; rintro e wy ⟨rfl, hb⟩; rw [HX1.out]; (try replace HN2 := hide (HN2.out.below hb)); (try replace HN3 := hide (HN3.out.below hb)); (try replace HN5 := hide (HN5.out.below hb)); replace BB := hide (bel_next BB.out hb); (try replace b0 := bcell hb b0); (try replace b1 := bcell hb b1); (try replace b2 := bcell hb b2); (try replace b3 := bcell hb b3); clear hb) | (go_at_call 8; refine (awake9 _).mono ?_; rintro e wz ⟨rfl, hb⟩))
              go_ret
              exact ⟨rfl, bel_next BB.out hb⟩
            · have HC1 := hide hc
              rcases hd : mayD (r, q) with _ | _
              · have HD1 := hide hd
                have HNA : Hid (done9 s t (r, q) c = false) := by unfold Hid done9; rw [hd, Bool.and_false]; rfl
                clear hs hk hc hd
                go_wp2_with (first | (go_at_call 9; refine (Add9_bad a n cap s t r q pa na ca c _ (HV.out.below BB.out) (HP.out.below BB.out) HNA.out).mono ?_; rintro e wy ⟨rfl, hb⟩; (try replace HN2 := hide (HN2.out.below hb)); (try replace HN3 := hide (HN3.out.below hb)); (try replace HN5 := hide (HN5.out.below hb)); replace BB := hide (bel_next BB.out hb); (try replace b0 := bcell hb b0); (try replace b1 := bcell hb b1); (try replace b2 := bcell hb b2); (try replace b3 := bcell hb b3); clear hb) | (go_at_call 10; refine (Drop9_bad a n cap s t r q pa na ca c _ (HV.out.below BB.out) (HP.out.below BB.out) HNA.out).mono ?_; rintro e wy ⟨rfl, hb⟩; (try replace HN2 := hide (HN2.out.below hb)); (try replace HN3 := hide (HN3.out.below hb)); (try replace HN5 := hide (HN5.out.below hb)); replace BB := hide (bel_next BB.out hb); (try replace b0 := bcell hb b0); (try replace b1 := bcell hb b1); (try replace b2 := bcell hb b2); (try replace b3 := bcell hb b3); clear hb) | (go_at_call 12; refine (May9_ref a n cap s _ (HV.out.below BB.out) HFM.out).mono ?_; rintro e wy ⟨rfl, hb⟩; rw [HS1.out]; (try replace HN2 := hide (HN2.out.below hb)); (try replace HN3 := hide (HN3.out.below hb)); (try replace HN5 := hide (HN5.out.below hb)); replace BB := hide (bel_next BB.out hb); (try replace b0 := bcell hb b0); (try replace b1 := bcell hb b1); (try replace b2 := bcell hb b2); (try replace b3 := bcell hb b3); clear hb) | (go_at_call 13; refine (KeyR_any t _).mono ?_; rintro e wy ⟨rfl, hb⟩; rw [HK1.out]; (try replace HN2 := hide (HN2.out.below hb)); (try replace HN3 := hide (HN3.out.below hb)); (try replace HN5 := hide (HN5.out.below hb)); replace BB := hide (bel_next BB.out hb); (try replace b0 := bcell hb b0); (try replace b1 := bcell hb b1); (try replace b2 := bcell hb b2); (try replace b3 := bcell hb b3); clear hb) | (go_at_call 14; refine (may_ref pa na ca c _ (HP.out.below BB.out)).mono ?_; rintro e wy ⟨rfl, rfl⟩; rw [HC1.out]) | (go_at_call 15; refine (MayR_any r q _).mono ?_; rintro e wy ⟨rfl, hg⟩; rw [show mayD (r, q) = _ from HD1.out]; have hb := hg.bel; clear hg; (try replace HN2 := hide (HN2.out.below hb)); (try replace HN3 := hide (HN3.out.below hb)); (try replace HN5 := hide (HN5.out.below hb)); replace BB := hide (bel_next BB.out hb); (try replace b0 := bcell hb b0); (try replace b1 := bcell hb b1); (try replace b2 := bcell hb b2); (try replace b3 := bcell hb b3); clear hb) | (go_at_call 11; refine (chk9_any a n cap s _ (HV.out.below BB.out)).mono ?_; rintro e wy ⟨rfl, hb⟩; rw [HX1.out]; (try replace HN2 := hide (HN2.out.below hb)); (try replace HN3 := hide (HN3.out.below hb)); (try replace HN5 := hide (HN5.out.below hb)); replace BB := hide (bel_next BB.out hb); (try replace b0 := bcell hb b0); (try replace b1 := bcell hb b1); (try replace b2 := bcell hb b2); (try replace b3 := bcell hb b3); clear hb) | (go_at_call 8; refine (awake9 _).mono ?_; rintro e wz ⟨rfl, hb⟩))
                go_ret
                exact ⟨rfl, bel_next BB.out hb⟩
              · have HD1 := hide hd
                have HYES := hide (done9_iff.2 ⟨hs, hk, hd, hc⟩)
                clear hs hk hc hd
                have HAD : Hid (∀ W, NSS W a n s → NS W pa na c → Calls Try.prog 9 #[.slice a n cap, .string t, .agg #[.int .i64 r, .int .i64 q], .slice pa na ca] W fun e w' => ∃ p cp, e = .returned (.tuple #[.slice p (addP s t (r, q) c).length cp, .int .i64 0]) ∧ NSS w' p (addP s t (r, q) c).length (addP s t (r, q) c) ∧ CP p (addP s t (r, q) c).length cp ∧ Below W.heap.size W w') := fun W g1 g3 => Add9_good a n cap s t r q pa na ca c W g1 g3 HYES.out HFW.out (by omega)
                have HAR : Hid (∀ W, NSS W a n s → NS W pa na c → Calls Try.prog 17 #[.slice a n cap, .string t, .agg #[.int .i64 r, .int .i64 q], .slice pa na ca] W fun e w' => ∃ p cp, e = .returned (.slice p (addP s t (r, q) c).length cp) ∧ NSS w' p (addP s t (r, q) c).length (addP s t (r, q) c) ∧ CP p (addP s t (r, q) c).length cp ∧ Below W.heap.size W w') := fun W g1 g3 => AddP_ref a n cap s t r q pa na ca c W g1 HCP.out (mayS9_iff.1 HS1.out).2.1 g3 (by omega) HFW9.out
                have HDD : Hid (∀ W, NSS W a n s → NS W pa na c → Calls Try.prog 10 #[.slice a n cap, .string t, .agg #[.int .i64 r, .int .i64 q], .slice pa na ca] W fun e w' => ∃ p cp, e = .returned (.tuple #[.slice p (dropP s t (r, q) c).length cp, .int .i64 0]) ∧ NSS w' p (dropP s t (r, q) c).length (dropP s t (r, q) c) ∧ CP p (dropP s t (r, q) c).length cp ∧ Below W.heap.size W w') := fun W g1 g3 => Drop9_good a n cap s t r q pa na ca c W g1 g3 HYES.out HFW.out (by omega)
                have HDR : Hid (∀ W, NSS W a n s → NS W pa na c → Calls Try.prog 18 #[.slice a n cap, .string t, .agg #[.int .i64 r, .int .i64 q], .slice pa na ca] W fun e w' => ∃ p cp, e = .returned (.slice p (dropP s t (r, q) c).length cp) ∧ NSS w' p (dropP s t (r, q) c).length (dropP s t (r, q) c) ∧ CP p (dropP s t (r, q) c).length cp ∧ Below W.heap.size W w') := fun W g1 g3 => DropP_ref a n cap s t r q pa na ca c W g1 HCP.out (mayS9_iff.1 HS1.out).2.1 g3 (by omega) HFW9.out
                generalize addP s t (r, q) c = A at *
                generalize A.length = nA at *
                generalize dropP s t (r, q) c = D at *
                generalize D.length = nD at *
                go_upto_region 9 with (first | (go_at_call 9; refine (HAD.out _ (HV.out.below BB.out) (HP.out.below BB.out)).mono ?_; rintro e wy ⟨p2, c2, rfl, hn2, hc2, hb⟩; have HN2x := hide hn2; (try replace HN3 := hide (HN3.out.below hb)); (try replace HN5 := hide (HN5.out.below hb)); replace BB := hide (bel_next BB.out hb); (try replace b0 := bcell hb b0); (try replace b1 := bcell hb b1); (try replace b2 := bcell hb b2); (try replace b3 := bcell hb b3); clear hb; have HN2 := HN2x; clear HN2x hn2 hc2) | (go_at_call 10; refine (HDD.out _ (HV.out.below BB.out) (HP.out.below BB.out)).mono ?_; rintro e wy ⟨p3, c3, rfl, hn3, hc3, hb⟩; have HN3x := hide hn3; (try replace HN2 := hide (HN2.out.below hb)); (try replace HN5 := hide (HN5.out.below hb)); replace BB := hide (bel_next BB.out hb); (try replace b0 := bcell hb b0); (try replace b1 := bcell hb b1); (try replace b2 := bcell hb b2); (try replace b3 := bcell hb b3); clear hb; have HN3 := HN3x; clear HN3x hn3 hc3) | (go_at_call 12; refine (May9_ref a n cap s _ (HV.out.below BB.out) HFM.out).mono ?_; rintro e wy ⟨rfl, hb⟩; rw [HS1.out]; (try replace HN2 := hide (HN2.out.below hb)); (try replace HN3 := hide (HN3.out.below hb)); (try replace HN5 := hide (HN5.out.below hb)); replace BB := hide (bel_next BB.out hb); (try replace b0 := bcell hb b0); (try replace b1 := bcell hb b1); (try replace b2 := bcell hb b2); (try replace b3 := bcell hb b3); clear hb) | (go_at_call 13; refine (KeyR_any t _).mono ?_; rintro e wy ⟨rfl, hb⟩; rw [HK1.out]; (try replace HN2 := hide (HN2.out.below hb)); (try replace HN3 := hide (HN3.out.below hb)); (try replace HN5 := hide (HN5.out.below hb)); replace BB := hide (bel_next BB.out hb); (try replace b0 := bcell hb b0); (try replace b1 := bcell hb b1); (try replace b2 := bcell hb b2); (try replace b3 := bcell hb b3); clear hb) | (go_at_call 14; refine (may_ref pa na ca c _ (HP.out.below BB.out)).mono ?_; rintro e wy ⟨rfl, rfl⟩; rw [HC1.out]) | (go_at_call 15; refine (MayR_any r q _).mono ?_; rintro e wy ⟨rfl, hg⟩; rw [show mayD (r, q) = _ from HD1.out]; have hb := hg.bel; clear hg; (try replace HN2 := hide (HN2.out.below hb)); (try replace HN3 := hide (HN3.out.below hb)); (try replace HN5 := hide (HN5.out.below hb)); replace BB := hide (bel_next BB.out hb); (try replace b0 := bcell hb b0); (try replace b1 := bcell hb b1); (try replace b2 := bcell hb b2); (try replace b3 := bcell hb b3); clear hb) | (go_at_call 11; refine (chk9_any a n cap s _ (HV.out.below BB.out)).mono ?_; rintro e wy ⟨rfl, hb⟩; rw [HX1.out]; (try replace HN2 := hide (HN2.out.below hb)); (try replace HN3 := hide (HN3.out.below hb)); (try replace HN5 := hide (HN5.out.below hb)); replace BB := hide (bel_next BB.out hb); (try replace b0 := bcell hb b0); (try replace b1 := bcell hb b1); (try replace b2 := bcell hb b2); (try replace b3 := bcell hb b3); clear hb))
                go_wp2_with (first | (go_at_call 17; refine (HAR.out _ (HV.out.below BB.out) (HP.out.below BB.out)).mono ?_; rintro e wy ⟨p5, c5, rfl, hn5, hc5, hb⟩; have HN5x := hide hn5; (try replace HN2 := hide (HN2.out.below hb)); (try replace HN3 := hide (HN3.out.below hb)); replace BB := hide (bel_next BB.out hb); (try replace b0 := bcell hb b0); (try replace b1 := bcell hb b1); (try replace b2 := bcell hb b2); (try replace b3 := bcell hb b3); clear hb; have HN5 := HN5x; clear HN5x hn5 hc5) | (go_at_call 16; refine (SameS_ref p2 nA c2 A p5 nA c5 A _ HN2.out HN5.out).mono ?_; rintro e wy ⟨rfl, hb⟩; rw [decide_eq_true (rfl : A = A)]; (try replace HN2 := hide (HN2.out.below hb)); (try replace HN3 := hide (HN3.out.below hb)); (try replace HN5 := hide (HN5.out.below hb)); replace BB := hide (bel_next BB.out hb); (try replace b0 := bcell hb b0); (try replace b1 := bcell hb b1); (try replace b2 := bcell hb b2); (try replace b3 := bcell hb b3); clear hb; refine Stop.at ?_))
                unfold Stop
                go_wp2_with (first | (go_at_call 18; refine (HDR.out _ (HV.out.below BB.out) (HP.out.below BB.out)).mono ?_; rintro e wy ⟨p6, c6, rfl, hn6, hc6, hb⟩; have HN6 := hide hn6; (try replace HN2 := hide (HN2.out.below hb)); (try replace HN3 := hide (HN3.out.below hb)); (try replace HN5 := hide (HN5.out.below hb)); replace BB := hide (bel_next BB.out hb); (try replace b0 := bcell hb b0); (try replace b1 := bcell hb b1); (try replace b2 := bcell hb b2); (try replace b3 := bcell hb b3); clear hb; clear hn6 hc6) | (go_at_call 16; refine (SameS_ref p3 nD c3 D p6 nD c6 D _ HN3.out HN6.out).mono ?_; rintro e wy ⟨rfl, hb⟩; rw [decide_eq_true (rfl : D = D)]; (try replace HN2 := hide (HN2.out.below hb)); (try replace HN3 := hide (HN3.out.below hb)); (try replace HN5 := hide (HN5.out.below hb)); replace BB := hide (bel_next BB.out hb); (try replace b0 := bcell hb b0); (try replace b1 := bcell hb b1); (try replace b2 := bcell hb b2); (try replace b3 := bcell hb b3); clear hb) | (go_at_call 8; refine (awake9 _).mono ?_; rintro e wz ⟨rfl, hb⟩))
                go_ret
                exact ⟨rfl, bel_next BB.out hb⟩
      · go_wp2_with (go_at_call 8; refine (awake9 _).mono ?_; rintro e wz ⟨rfl, hb⟩)
        go_ret
        exact ⟨rfl, bel_next BB.out hb⟩
    · go_wp2_with (go_at_call 8; refine (awake9 _).mono ?_; rintro e wz ⟨rfl, hb⟩)
      go_ret
      exact ⟨rfl, bel_next BB.out hb⟩

/-! ### The row's step -/
set_option maxRecDepth 100000 in
theorem lifted (os : Os) (started : os.Started) (H : Type) (enc : TypeId × Value → H) :
    ReturnsInHanded {} Try.checked os 3 .any (Rows.rwsetTurnsSpec.pre6 enc Try.prog Try.f3 Rows.rwsetTurnsRow.domain false) (Rows.rwsetTurnsSpec.post enc Try.prog Try.f3 false true false false) := by
  refine returnsInHanded_of_change_sized (C := Try.checked) own started (by kernel_rfl) Try.func3
    (ChangeSpec.witness6 (enc := enc) (C := Try.checked) false ⟨#[], #[.slice none 0 0, .agg #[.string ⟨#[]⟩, .int .i64 0, .int .i64 0, .slice none 0 0]], []⟩ 8 (by kernel_rfl) (by kernel_rfl) (by kernel_rfl) (by kernel_rfl)) ?_
  intro W base args ds gs before hval0 hW hcnd hz0 _
  have hval : ∀ (j : Nat) t v, Try.f3.params[j]? = some t → args[j]? = some v → Value.okWide Try.prog W .any base t v := hval0
  have hz : (DataW.weightsEach Try.prog (Try.f3.params.toList ++ Rows.rwsetTurnsSpec.plain.varTypes Try.prog) (ds ++ gs)).all (· ≤ reachBytes) = true := hz0
  have hW' := hW
  obtain ⟨p, q, hA0, hV, rfl, hfz, hnd⟩ := hW
  have hA : DataW.TrodAll enc Try.prog W 0 (fun _ => true) true Try.f3.params.toList args.toList ds p := hA0
  rw [Try.params3] at hA hval hz
  obtain ⟨v0, vs0, d0, ds0, p0, q0, hargs, rfl, rfl, h0, r0⟩ := trodAll_cons hA
  obtain ⟨v1, vs1, d1, ds1, p1, q1, rfl, rfl, rfl, h1, r1⟩ := trodAll_cons r0
  obtain ⟨rfl, rfl, rfl⟩ := trodAll_nil r1
  obtain rfl : args = #[v0, v1] := by cases args; simp_all
  obtain ⟨rfl, rfl⟩ := trodVars_none hV
  have k0 := h0
  have lt0 : ∀ x ∈ p0, x.block < W.heap.size := by obtain ⟨m, hm⟩ := k0; exact DataW.trod_lt m _ _ _ hm
  have w0 : InNs W v0 := in_ents (hval 0 22 v0 rfl rfl) h0 (fun n hn => by have := List.all_eq_true.1 hz n (DataW.weights_mem_each (j := 0) (t := 22) rfl rfl n hn); simpa using this)
  have k1 := h1
  have lt1 : ∀ x ∈ p1, x.block < W.heap.size := by obtain ⟨m, hm⟩ := k1; exact DataW.trod_lt m _ _ _ hm
  have w1 : InDd W v1 := in_deed (hval 1 28 v1 rfl rfl) h1 (fun n hn => by have := List.all_eq_true.1 hz n (DataW.weights_mem_each (j := 1) (t := 28) rfl rfl n hn); simpa using this)
  clear hA0 hval0 hz0
  refine (walk v0 v1 W w0 w1).mono fun e W' ⟨he, bel⟩ => ?_
  subst he
  exact ⟨_, rfl, _, _, _, [], _, [], hW', trodAll_mk1 (shut_bool Try.underlying4 _), (trodAll_cons_mk (Below.trod laidOut (by kernel_rfl) (of_decide_eq_true (by kernel_rfl)) k0 bel lt0) (trodAll_cons_mk (Below.trod laidOut (by kernel_rfl) (of_decide_eq_true (by kernel_rfl)) k1 bel lt1) trodAll_mk0)), rfl, bel.frame _, fun h => by cases h⟩

theorem over : Rows.rwsetTurnsRow.holds Try.pinned (OpenSpec.ofChange Rows.rwsetTurnsSpec) :=
  OpenClaim.holds_of_wide 3 Try.f3 rfl rfl rfl rfl rfl rfl rfl ⟨rfl, rfl, rfl, rfl, rfl⟩ rfl rfl rfl rfl rfl (by kernel_rfl) Try.func3 (by kernel_rfl)
    (of_decide_eq_true (by kernel_rfl)) (by unfold Func.isWrapper; first | (rw [if_pos (by decide +kernel)]; kernel_rfl) | (rw [if_neg (by decide +kernel)]; exact ⟨rfl, rfl⟩))
    (fun os started H enc _ => lifted os started H enc)
end Go.Proofs.Ytiodlpoeifmldaa.rwsetTurns
namespace Go.Proofs.Ytiodlpoeifmldaa
theorem rwsetTurns_holds : Rows.RwsetTurnsSaid := rwsetTurns.over
end Go.Proofs.Ytiodlpoeifmldaa
