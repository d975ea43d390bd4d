/- Any register in which any note is set, and any key's note, are as the document says. -/
import Derived.Test.YtohkopjacpendaaRows
import Derived.WalkKit
import Derived.ProofKit
import Derived.OpenShut
import Derived.ShutString
import Derived.ChangeOld
import Derived.Below
import Derived.SizedLaws
import Derived.Test.YtohkopjacpendaaGNq
namespace Go.Proofs.Ytohkopjacpendaa.registerSets
open Go.ChangeShapes Go.WideShapes Go.ChangeAt Go.RowKit
set_option linter.unusedVariables false

theorem own : ownKnob Try.prog.godebug = none := by kernel_rfl
theorem laidOut : laidOutB Try.prog = true := by kernel_rfl

set_option maxHeartbeats 8000000 in
theorem walk (v0 : Value) (v1 : Value) (v2 : Value) (w : World) (w0 : InNn w v0) (w1 : InNo w v1) (w2 : InS10 w v2) :
    Calls Try.prog 3 #[v0, v1, v2] w fun e w' => e = .returned (.bool true) ∧ Below w.heap.size w w' := by
  obtain ⟨a, n, cap, s, rfl, hA, hcp⟩ := w0
  obtain ⟨k, ta, rp, wd, rfl⟩ := w1
  obtain ⟨t, rfl⟩ := w2
  obtain ⟨g1, g2, g3⟩ := setW k ta rp wd w
  have DB := hide g1
  have HV := hide hA
  have HCP := hide hcp
  have HLEN := hide hA.1
  have BB := hide (bel1 w (.cells #[.string k, .int .i64 ta, .int .i64 rp, .string wd] 24))
  have n0 := cell_new w #[.string k, .int .i64 ta, .int .i64 rp, .string wd] 24 _ rfl 0 _ rfl
  have n1 := cell_new w #[.string k, .int .i64 ta, .int .i64 rp, .string wd] 24 _ rfl 1 _ rfl
  have n2 := cell_new w #[.string k, .int .i64 ta, .int .i64 rp, .string wd] 24 _ rfl 2 _ rfl
  have n3 := cell_new w #[.string k, .int .i64 ta, .int .i64 rp, .string wd] 24 _ rfl 3 _ rfl
  clear hA hcp g1 g2 g3
  go_enter Try.func3, Try.ntmps3
  go_wp2_with (go_at_call 7; refine (light12 a n cap s _ (HV.out.below BB.out)).mono ?_; rintro e wl ⟨bl, rfl, hl, rfl⟩; refine Stop.at ?_)
  unfold Stop
  cases bl
  · clear hl
    go_wp2_with (go_at_call 8; refine (awake12 _).mono ?_; rintro e wz ⟨rfl, hb⟩)
    go_ret
    exact ⟨rfl, bel_next BB.out hb⟩
  · obtain ⟨hn60, hfew⟩ := hl rfl
    clear hl hfew
    go_wp2_with (go_at_call 7; refine (light12 (some ⟨w.heap.size + 1, 0, none⟩) 1 1 [(k, ta, rp, wd)] _ DB.out).mono ?_; rintro e wl ⟨bl, rfl, hl, rfl⟩; refine Stop.at ?_)
    unfold Stop
    have BQ := bel1 (w.alloc (.cells #[.string k, .int .i64 ta, .int .i64 rp, .string wd] 24)) (.cells #[.string k, .int .i64 ta, .int .i64 rp, .string wd] 24)
    replace BB := hide (bel_next BB.out BQ)
    (try replace HN2 := hide (HN2.out.below BQ))
    (try replace HN6 := hide (HN6.out.below BQ))
    (try replace n0 := bcell BQ n0)
    (try replace n1 := bcell BQ n1)
    (try replace n2 := bcell BQ n2)
    (try replace n3 := bcell BQ n3)
    (try replace y0 := bcell BQ y0)
    (try replace y1 := bcell BQ y1)
    (try replace y2 := bcell BQ y2)
    (try replace y3 := bcell BQ y3)
    (try replace v0 := bcell BQ v0)
    (try replace v1 := bcell BQ v1)
    (try replace v2 := bcell BQ v2)
    (try replace v3 := bcell BQ v3)
    clear BQ DB
    cases bl
    · clear hl
      go_wp2_with (go_at_call 8; refine (awake12 _).mono ?_; rintro e wz ⟨rfl, hb⟩)
      go_ret
      exact ⟨rfl, bel_next BB.out hb⟩
    · obtain ⟨_, hfew⟩ := hl rfl
      clear hl hfew
      generalize (w.alloc (.cells #[.string k, .int .i64 ta, .int .i64 rp, .string wd] 24)).alloc (.cells #[.string k, .int .i64 ta, .int .i64 rp, .string wd] 24) = u0 at *
      by_cases h1 : (t.size : Int) ≤ 100
      · rcases hm : mayR12 s with _ | _
        · have HMS := hide hm
          have HCK := hide (chkN_no hm)
          have HNO : Hid ((mayR12 s && mayNt (k, ta, rp, wd)) = false) := by unfold Hid; rw [hm]; rfl
          have HGP : Hid (∀ W, NN W a n s → Calls Try.prog 10 #[.slice a n cap, .string t] W fun e w' => e = .returned (.tuple #[.agg #[.string ⟨#[]⟩, .int .i64 0, .int .i64 0, .string ⟨#[]⟩], .bool false]) ∧ Below W.heap.size W w') := fun W g => by
            have q := Get12_any a n cap s t W g
            rw [get12_no hm t] at q
            exact q
          clear hm
          go_upto_region 4 with (go_at_call 9; refine (Set12_bad a n cap s k ta rp wd _ (HV.out.below BB.out) HNO.out).mono ?_; rintro e wy ⟨rfl, hb⟩; replace BB := hide (bel_next BB.out hb); (try replace HN2 := hide (HN2.out.below hb)); (try replace HN6 := hide (HN6.out.below hb)); (try replace n0 := bcell hb n0); (try replace n1 := bcell hb n1); (try replace n2 := bcell hb n2); (try replace n3 := bcell hb n3); (try replace y0 := bcell hb y0); (try replace y1 := bcell hb y1); (try replace y2 := bcell hb y2); (try replace y3 := bcell hb y3); (try replace v0 := bcell hb v0); (try replace v1 := bcell hb v1); (try replace v2 := bcell hb v2); (try replace v3 := bcell hb v3); clear hb)
          go_upto_region 5 with (go_at_call 10; refine (HGP.out _ (HV.out.below BB.out)).mono ?_; rintro e wg ⟨rfl, hb⟩; replace BB := hide (bel_next BB.out hb); (try replace HN2 := hide (HN2.out.below hb)); (try replace HN6 := hide (HN6.out.below hb)); (try replace n0 := bcell hb n0); (try replace n1 := bcell hb n1); (try replace n2 := bcell hb n2); (try replace n3 := bcell hb n3); (try replace y0 := bcell hb y0); (try replace y1 := bcell hb y1); (try replace y2 := bcell hb y2); (try replace y3 := bcell hb y3); (try replace v0 := bcell hb v0); (try replace v1 := bcell hb v1); (try replace v2 := bcell hb v2); (try replace v3 := bcell hb v3); clear hb)
          have BQ := bel1 wg (.cells #[.string ⟨#[]⟩, .int .i64 0, .int .i64 0, .string ⟨#[]⟩] 24)
          replace BB := hide (bel_next BB.out BQ)
          (try replace HN2 := hide (HN2.out.below BQ))
          (try replace HN6 := hide (HN6.out.below BQ))
          (try replace n0 := bcell BQ n0)
          (try replace n1 := bcell BQ n1)
          (try replace n2 := bcell BQ n2)
          (try replace n3 := bcell BQ n3)
          (try replace y0 := bcell BQ y0)
          (try replace y1 := bcell BQ y1)
          (try replace y2 := bcell BQ y2)
          (try replace y3 := bcell BQ y3)
          (try replace v0 := bcell BQ v0)
          (try replace v1 := bcell BQ v1)
          (try replace v2 := bcell BQ v2)
          (try replace v3 := bcell BQ v3)
          have y0 := cell_new wg #[.string ⟨#[]⟩, .int .i64 0, .int .i64 0, .string ⟨#[]⟩] 24 _ rfl 0 _ rfl
          have y1 := cell_new wg #[.string ⟨#[]⟩, .int .i64 0, .int .i64 0, .string ⟨#[]⟩] 24 _ rfl 1 _ rfl
          have y2 := cell_new wg #[.string ⟨#[]⟩, .int .i64 0, .int .i64 0, .string ⟨#[]⟩] 24 _ rfl 2 _ rfl
          have y3 := cell_new wg #[.string ⟨#[]⟩, .int .i64 0, .int .i64 0, .string ⟨#[]⟩] 24 _ rfl 3 _ rfl
          clear BQ
          go_upto_region 8 with (first | (go_at_call 11; refine (Check12_any a n cap s _ (HV.out.below BB.out)).mono ?_; rintro e wy ⟨rfl, hb⟩; rw [HCK.out]; replace BB := hide (bel_next BB.out hb); (try replace HN2 := hide (HN2.out.below hb)); (try replace HN6 := hide (HN6.out.below hb)); (try replace n0 := bcell hb n0); (try replace n1 := bcell hb n1); (try replace n2 := bcell hb n2); (try replace n3 := bcell hb n3); (try replace y0 := bcell hb y0); (try replace y1 := bcell hb y1); (try replace y2 := bcell hb y2); (try replace y3 := bcell hb y3); (try replace v0 := bcell hb v0); (try replace v1 := bcell hb v1); (try replace v2 := bcell hb v2); (try replace v3 := bcell hb v3); clear hb) | (go_at_call 12; refine (May12_ref a n cap s _ (HV.out.below BB.out)).mono ?_; rintro e wy ⟨rfl, hb⟩; rw [HMS.out]; replace BB := hide (bel_next BB.out hb); (try replace HN2 := hide (HN2.out.below hb)); (try replace HN6 := hide (HN6.out.below hb)); (try replace n0 := bcell hb n0); (try replace n1 := bcell hb n1); (try replace n2 := bcell hb n2); (try replace n3 := bcell hb n3); (try replace y0 := bcell hb y0); (try replace y1 := bcell hb y1); (try replace y2 := bcell hb y2); (try replace y3 := bcell hb y3); (try replace v0 := bcell hb v0); (try replace v1 := bcell hb v1); (try replace v2 := bcell hb v2); (try replace v3 := bcell hb v3); clear hb))
          go_wp2_with (go_at_call 8; refine (awake12 _).mono ?_; rintro e wz ⟨rfl, hb⟩)
          go_ret
          exact ⟨rfl, bel_next BB.out hb⟩
        · have HMS := hide hm
          have HCK := hide (chkN_yes hm)
          rcases hg : getG kN s t with _ | ⟨kx, tx, rx, wx⟩
          · have HGP : Hid (∀ W, NN W a n s → Calls Try.prog 10 #[.slice a n cap, .string t] W fun e w' => e = .returned (.tuple #[.agg #[.string ⟨#[]⟩, .int .i64 0, .int .i64 0, .string ⟨#[]⟩], .bool false]) ∧ Below W.heap.size W w') := fun W g => by
              have q := Get12_any a n cap s t W g
              rw [get12_yes hm t, hg] at q
              exact q
            have HGR : Hid (∀ W, NN W a n s → Calls Try.prog 13 #[.slice a n cap, .string t] W fun e w' => e = .returned (.agg #[.string ⟨#[]⟩, .int .i64 0, .int .i64 0, .string ⟨#[]⟩]) ∧ Below W.heap.size W w') := fun W g => by
              have q := Get12_ref a n cap s t W g
              rw [hg] at q
              exact q
            clear hg
            rcases hon : mayNt (k, ta, rp, wd) with _ | _
            · have HON := hide hon
              have HNO : Hid ((mayR12 s && mayNt (k, ta, rp, wd)) = false) := by unfold Hid; rw [hon, Bool.and_false]
              clear hon hm
              go_upto_region 4 with (go_at_call 9; refine (Set12_bad a n cap s k ta rp wd _ (HV.out.below BB.out) HNO.out).mono ?_; rintro e wy ⟨rfl, hb⟩; replace BB := hide (bel_next BB.out hb); (try replace HN2 := hide (HN2.out.below hb)); (try replace HN6 := hide (HN6.out.below hb)); (try replace n0 := bcell hb n0); (try replace n1 := bcell hb n1); (try replace n2 := bcell hb n2); (try replace n3 := bcell hb n3); (try replace y0 := bcell hb y0); (try replace y1 := bcell hb y1); (try replace y2 := bcell hb y2); (try replace y3 := bcell hb y3); (try replace v0 := bcell hb v0); (try replace v1 := bcell hb v1); (try replace v2 := bcell hb v2); (try replace v3 := bcell hb v3); clear hb)
              go_upto_region 5 with (go_at_call 10; refine (HGP.out _ (HV.out.below BB.out)).mono ?_; rintro e wg ⟨rfl, hb⟩; replace BB := hide (bel_next BB.out hb); (try replace HN2 := hide (HN2.out.below hb)); (try replace HN6 := hide (HN6.out.below hb)); (try replace n0 := bcell hb n0); (try replace n1 := bcell hb n1); (try replace n2 := bcell hb n2); (try replace n3 := bcell hb n3); (try replace y0 := bcell hb y0); (try replace y1 := bcell hb y1); (try replace y2 := bcell hb y2); (try replace y3 := bcell hb y3); (try replace v0 := bcell hb v0); (try replace v1 := bcell hb v1); (try replace v2 := bcell hb v2); (try replace v3 := bcell hb v3); clear hb)
              have BQ := bel1 wg (.cells #[.string ⟨#[]⟩, .int .i64 0, .int .i64 0, .string ⟨#[]⟩] 24)
              replace BB := hide (bel_next BB.out BQ)
              (try replace HN2 := hide (HN2.out.below BQ))
              (try replace HN6 := hide (HN6.out.below BQ))
              (try replace n0 := bcell BQ n0)
              (try replace n1 := bcell BQ n1)
              (try replace n2 := bcell BQ n2)
              (try replace n3 := bcell BQ n3)
              (try replace y0 := bcell BQ y0)
              (try replace y1 := bcell BQ y1)
              (try replace y2 := bcell BQ y2)
              (try replace y3 := bcell BQ y3)
              (try replace v0 := bcell BQ v0)
              (try replace v1 := bcell BQ v1)
              (try replace v2 := bcell BQ v2)
              (try replace v3 := bcell BQ v3)
              have y0 := cell_new wg #[.string ⟨#[]⟩, .int .i64 0, .int .i64 0, .string ⟨#[]⟩] 24 _ rfl 0 _ rfl
              have y1 := cell_new wg #[.string ⟨#[]⟩, .int .i64 0, .int .i64 0, .string ⟨#[]⟩] 24 _ rfl 1 _ rfl
              have y2 := cell_new wg #[.string ⟨#[]⟩, .int .i64 0, .int .i64 0, .string ⟨#[]⟩] 24 _ rfl 2 _ rfl
              have y3 := cell_new wg #[.string ⟨#[]⟩, .int .i64 0, .int .i64 0, .string ⟨#[]⟩] 24 _ rfl 3 _ rfl
              clear BQ
              go_upto_region 9 with (first | (go_at_call 11; refine (Check12_any a n cap s _ (HV.out.below BB.out)).mono ?_; rintro e wy ⟨rfl, hb⟩; rw [HCK.out]; replace BB := hide (bel_next BB.out hb); (try replace HN2 := hide (HN2.out.below hb)); (try replace HN6 := hide (HN6.out.below hb)); (try replace n0 := bcell hb n0); (try replace n1 := bcell hb n1); (try replace n2 := bcell hb n2); (try replace n3 := bcell hb n3); (try replace y0 := bcell hb y0); (try replace y1 := bcell hb y1); (try replace y2 := bcell hb y2); (try replace y3 := bcell hb y3); (try replace v0 := bcell hb v0); (try replace v1 := bcell hb v1); (try replace v2 := bcell hb v2); (try replace v3 := bcell hb v3); clear hb) | (go_at_call 12; refine (May12_ref a n cap s _ (HV.out.below BB.out)).mono ?_; rintro e wy ⟨rfl, hb⟩; rw [HMS.out]; replace BB := hide (bel_next BB.out hb); (try replace HN2 := hide (HN2.out.below hb)); (try replace HN6 := hide (HN6.out.below hb)); (try replace n0 := bcell hb n0); (try replace n1 := bcell hb n1); (try replace n2 := bcell hb n2); (try replace n3 := bcell hb n3); (try replace y0 := bcell hb y0); (try replace y1 := bcell hb y1); (try replace y2 := bcell hb y2); (try replace y3 := bcell hb y3); (try replace v0 := bcell hb v0); (try replace v1 := bcell hb v1); (try replace v2 := bcell hb v2); (try replace v3 := bcell hb v3); clear hb))
              go_upto_region 10 with (go_at_call 13; refine (HGR.out _ (HV.out.below BB.out)).mono ?_; rintro e wh ⟨rfl, hb⟩; replace BB := hide (bel_next BB.out hb); (try replace HN2 := hide (HN2.out.below hb)); (try replace HN6 := hide (HN6.out.below hb)); (try replace n0 := bcell hb n0); (try replace n1 := bcell hb n1); (try replace n2 := bcell hb n2); (try replace n3 := bcell hb n3); (try replace y0 := bcell hb y0); (try replace y1 := bcell hb y1); (try replace y2 := bcell hb y2); (try replace y3 := bcell hb y3); (try replace v0 := bcell hb v0); (try replace v1 := bcell hb v1); (try replace v2 := bcell hb v2); (try replace v3 := bcell hb v3); clear hb)
              have BQ := bel1 wh (.cells #[.string ⟨#[]⟩, .int .i64 0, .int .i64 0, .string ⟨#[]⟩] 24)
              replace BB := hide (bel_next BB.out BQ)
              (try replace HN2 := hide (HN2.out.below BQ))
              (try replace HN6 := hide (HN6.out.below BQ))
              (try replace n0 := bcell BQ n0)
              (try replace n1 := bcell BQ n1)
              (try replace n2 := bcell BQ n2)
              (try replace n3 := bcell BQ n3)
              (try replace y0 := bcell BQ y0)
              (try replace y1 := bcell BQ y1)
              (try replace y2 := bcell BQ y2)
              (try replace y3 := bcell BQ y3)
              (try replace v0 := bcell BQ v0)
              (try replace v1 := bcell BQ v1)
              (try replace v2 := bcell BQ v2)
              (try replace v3 := bcell BQ v3)
              have v0 := cell_new wh #[.string ⟨#[]⟩, .int .i64 0, .int .i64 0, .string ⟨#[]⟩] 24 _ rfl 0 _ rfl
              have v1 := cell_new wh #[.string ⟨#[]⟩, .int .i64 0, .int .i64 0, .string ⟨#[]⟩] 24 _ rfl 1 _ rfl
              have v2 := cell_new wh #[.string ⟨#[]⟩, .int .i64 0, .int .i64 0, .string ⟨#[]⟩] 24 _ rfl 2 _ rfl
              have v3 := cell_new wh #[.string ⟨#[]⟩, .int .i64 0, .int .i64 0, .string ⟨#[]⟩] 24 _ rfl 3 _ rfl
              clear BQ
              go_upto_region 12 with fail
              go_wp2_with (first | (go_at_call 14; refine (One12_ref k ta rp wd _).mono ?_; rintro e wy ⟨rfl, hb⟩; rw [HON.out]; replace BB := hide (bel_next BB.out hb); (try replace HN2 := hide (HN2.out.below hb)); (try replace HN6 := hide (HN6.out.below hb)); (try replace n0 := bcell hb n0); (try replace n1 := bcell hb n1); (try replace n2 := bcell hb n2); (try replace n3 := bcell hb n3); (try replace y0 := bcell hb y0); (try replace y1 := bcell hb y1); (try replace y2 := bcell hb y2); (try replace y3 := bcell hb y3); (try replace v0 := bcell hb v0); (try replace v1 := bcell hb v1); (try replace v2 := bcell hb v2); (try replace v3 := bcell hb v3); clear hb) | (go_at_call 8; refine (awake12 _).mono ?_; rintro e wz ⟨rfl, hb⟩))
              go_ret
              exact ⟨rfl, bel_next BB.out hb⟩
            · have HON := hide hon
              have HAD : Hid (∀ W, NN W a n s → Calls Try.prog 9 #[.slice a n cap, .agg #[.string k, .int .i64 ta, .int .i64 rp, .string wd]] W fun e w' => ∃ p cp, e = .returned (.tuple #[.slice p (setN s (k, ta, rp, wd)).length cp, .int .i64 0]) ∧ NN w' p (setN s (k, ta, rp, wd)).length (setN s (k, ta, rp, wd)) ∧ CP p (setN s (k, ta, rp, wd)).length cp ∧ Below W.heap.size W w') := fun W g => Set12_good a n cap s k ta rp wd W g HCP.out hm hon (by rw [HLEN.out]; omega)
              have HSR : Hid (∀ W, NN W a n s → Calls Try.prog 16 #[.slice a n cap, .agg #[.string k, .int .i64 ta, .int .i64 rp, .string wd]] W fun e w' => ∃ p cp, e = .returned (.slice p (setN s (k, ta, rp, wd)).length cp) ∧ NN w' p (setN s (k, ta, rp, wd)).length (setN s (k, ta, rp, wd)) ∧ CP p (setN s (k, ta, rp, wd)).length cp ∧ Below W.heap.size W w') := fun W g => Set12_ref a n cap s k ta rp wd W g HCP.out hm (mayNt_iff.1 hon).1 (by omega)
              clear hon hm
              generalize setN s (k, ta, rp, wd) = A at *
              generalize A.length = nA at *
              go_upto_region 4 with (go_at_call 9; refine (HAD.out _ (HV.out.below BB.out)).mono ?_; rintro e wy ⟨p2, c2, rfl, hn2, hc2, hb⟩; replace BB := hide (bel_next BB.out hb); (try replace HN2 := hide (HN2.out.below hb)); (try replace HN6 := hide (HN6.out.below hb)); (try replace n0 := bcell hb n0); (try replace n1 := bcell hb n1); (try replace n2 := bcell hb n2); (try replace n3 := bcell hb n3); (try replace y0 := bcell hb y0); (try replace y1 := bcell hb y1); (try replace y2 := bcell hb y2); (try replace y3 := bcell hb y3); (try replace v0 := bcell hb v0); (try replace v1 := bcell hb v1); (try replace v2 := bcell hb v2); (try replace v3 := bcell hb v3); have HN2 := hide hn2; clear hn2 hc2 hb)
              go_upto_region 5 with (go_at_call 10; refine (HGP.out _ (HV.out.below BB.out)).mono ?_; rintro e wg ⟨rfl, hb⟩; replace BB := hide (bel_next BB.out hb); (try replace HN2 := hide (HN2.out.below hb)); (try replace HN6 := hide (HN6.out.below hb)); (try replace n0 := bcell hb n0); (try replace n1 := bcell hb n1); (try replace n2 := bcell hb n2); (try replace n3 := bcell hb n3); (try replace y0 := bcell hb y0); (try replace y1 := bcell hb y1); (try replace y2 := bcell hb y2); (try replace y3 := bcell hb y3); (try replace v0 := bcell hb v0); (try replace v1 := bcell hb v1); (try replace v2 := bcell hb v2); (try replace v3 := bcell hb v3); clear hb)
              have BQ := bel1 wg (.cells #[.string ⟨#[]⟩, .int .i64 0, .int .i64 0, .string ⟨#[]⟩] 24)
              replace BB := hide (bel_next BB.out BQ)
              (try replace HN2 := hide (HN2.out.below BQ))
              (try replace HN6 := hide (HN6.out.below BQ))
              (try replace n0 := bcell BQ n0)
              (try replace n1 := bcell BQ n1)
              (try replace n2 := bcell BQ n2)
              (try replace n3 := bcell BQ n3)
              (try replace y0 := bcell BQ y0)
              (try replace y1 := bcell BQ y1)
              (try replace y2 := bcell BQ y2)
              (try replace y3 := bcell BQ y3)
              (try replace v0 := bcell BQ v0)
              (try replace v1 := bcell BQ v1)
              (try replace v2 := bcell BQ v2)
              (try replace v3 := bcell BQ v3)
              have y0 := cell_new wg #[.string ⟨#[]⟩, .int .i64 0, .int .i64 0, .string ⟨#[]⟩] 24 _ rfl 0 _ rfl
              have y1 := cell_new wg #[.string ⟨#[]⟩, .int .i64 0, .int .i64 0, .string ⟨#[]⟩] 24 _ rfl 1 _ rfl
              have y2 := cell_new wg #[.string ⟨#[]⟩, .int .i64 0, .int .i64 0, .string ⟨#[]⟩] 24 _ rfl 2 _ rfl
              have y3 := cell_new wg #[.string ⟨#[]⟩, .int .i64 0, .int .i64 0, .string ⟨#[]⟩] 24 _ rfl 3 _ rfl
              clear BQ
              go_upto_region 9 with (first | (go_at_call 11; refine (Check12_any a n cap s _ (HV.out.below BB.out)).mono ?_; rintro e wy ⟨rfl, hb⟩; rw [HCK.out]; replace BB := hide (bel_next BB.out hb); (try replace HN2 := hide (HN2.out.below hb)); (try replace HN6 := hide (HN6.out.below hb)); (try replace n0 := bcell hb n0); (try replace n1 := bcell hb n1); (try replace n2 := bcell hb n2); (try replace n3 := bcell hb n3); (try replace y0 := bcell hb y0); (try replace y1 := bcell hb y1); (try replace y2 := bcell hb y2); (try replace y3 := bcell hb y3); (try replace v0 := bcell hb v0); (try replace v1 := bcell hb v1); (try replace v2 := bcell hb v2); (try replace v3 := bcell hb v3); clear hb) | (go_at_call 12; refine (May12_ref a n cap s _ (HV.out.below BB.out)).mono ?_; rintro e wy ⟨rfl, hb⟩; rw [HMS.out]; replace BB := hide (bel_next BB.out hb); (try replace HN2 := hide (HN2.out.below hb)); (try replace HN6 := hide (HN6.out.below hb)); (try replace n0 := bcell hb n0); (try replace n1 := bcell hb n1); (try replace n2 := bcell hb n2); (try replace n3 := bcell hb n3); (try replace y0 := bcell hb y0); (try replace y1 := bcell hb y1); (try replace y2 := bcell hb y2); (try replace y3 := bcell hb y3); (try replace v0 := bcell hb v0); (try replace v1 := bcell hb v1); (try replace v2 := bcell hb v2); (try replace v3 := bcell hb v3); clear hb))
              go_upto_region 10 with (go_at_call 13; refine (HGR.out _ (HV.out.below BB.out)).mono ?_; rintro e wh ⟨rfl, hb⟩; replace BB := hide (bel_next BB.out hb); (try replace HN2 := hide (HN2.out.below hb)); (try replace HN6 := hide (HN6.out.below hb)); (try replace n0 := bcell hb n0); (try replace n1 := bcell hb n1); (try replace n2 := bcell hb n2); (try replace n3 := bcell hb n3); (try replace y0 := bcell hb y0); (try replace y1 := bcell hb y1); (try replace y2 := bcell hb y2); (try replace y3 := bcell hb y3); (try replace v0 := bcell hb v0); (try replace v1 := bcell hb v1); (try replace v2 := bcell hb v2); (try replace v3 := bcell hb v3); clear hb)
              have BQ := bel1 wh (.cells #[.string ⟨#[]⟩, .int .i64 0, .int .i64 0, .string ⟨#[]⟩] 24)
              replace BB := hide (bel_next BB.out BQ)
              (try replace HN2 := hide (HN2.out.below BQ))
              (try replace HN6 := hide (HN6.out.below BQ))
              (try replace n0 := bcell BQ n0)
              (try replace n1 := bcell BQ n1)
              (try replace n2 := bcell BQ n2)
              (try replace n3 := bcell BQ n3)
              (try replace y0 := bcell BQ y0)
              (try replace y1 := bcell BQ y1)
              (try replace y2 := bcell BQ y2)
              (try replace y3 := bcell BQ y3)
              (try replace v0 := bcell BQ v0)
              (try replace v1 := bcell BQ v1)
              (try replace v2 := bcell BQ v2)
              (try replace v3 := bcell BQ v3)
              have v0 := cell_new wh #[.string ⟨#[]⟩, .int .i64 0, .int .i64 0, .string ⟨#[]⟩] 24 _ rfl 0 _ rfl
              have v1 := cell_new wh #[.string ⟨#[]⟩, .int .i64 0, .int .i64 0, .string ⟨#[]⟩] 24 _ rfl 1 _ rfl
              have v2 := cell_new wh #[.string ⟨#[]⟩, .int .i64 0, .int .i64 0, .string ⟨#[]⟩] 24 _ rfl 2 _ rfl
              have v3 := cell_new wh #[.string ⟨#[]⟩, .int .i64 0, .int .i64 0, .string ⟨#[]⟩] 24 _ rfl 3 _ rfl
              clear BQ
              go_upto_region 12 with fail
              go_wp2_with (first | (go_at_call 14; refine (One12_ref k ta rp wd _).mono ?_; rintro e wy ⟨rfl, hb⟩; rw [HON.out]; replace BB := hide (bel_next BB.out hb); (try replace HN2 := hide (HN2.out.below hb)); (try replace HN6 := hide (HN6.out.below hb)); (try replace n0 := bcell hb n0); (try replace n1 := bcell hb n1); (try replace n2 := bcell hb n2); (try replace n3 := bcell hb n3); (try replace y0 := bcell hb y0); (try replace y1 := bcell hb y1); (try replace y2 := bcell hb y2); (try replace y3 := bcell hb y3); (try replace v0 := bcell hb v0); (try replace v1 := bcell hb v1); (try replace v2 := bcell hb v2); (try replace v3 := bcell hb v3); clear hb) | (go_at_call 16; refine (HSR.out _ (HV.out.below BB.out)).mono ?_; rintro e wy ⟨p6, c6, rfl, hn6, hc6, hb⟩; replace BB := hide (bel_next BB.out hb); (try replace HN2 := hide (HN2.out.below hb)); (try replace HN6 := hide (HN6.out.below hb)); (try replace n0 := bcell hb n0); (try replace n1 := bcell hb n1); (try replace n2 := bcell hb n2); (try replace n3 := bcell hb n3); (try replace y0 := bcell hb y0); (try replace y1 := bcell hb y1); (try replace y2 := bcell hb y2); (try replace y3 := bcell hb y3); (try replace v0 := bcell hb v0); (try replace v1 := bcell hb v1); (try replace v2 := bcell hb v2); (try replace v3 := bcell hb v3); have HN6 := hide hn6; clear hn6 hc6 hb) | (go_at_call 15; refine (Same12_ref p2 nA c2 A p6 nA c6 A _ HN2.out HN6.out).mono ?_; rintro e wy ⟨rfl, hb⟩; rw [decide_eq_true (rfl : A = A)]; replace BB := hide (bel_next BB.out hb); (try replace HN2 := hide (HN2.out.below hb)); (try replace HN6 := hide (HN6.out.below hb)); (try replace n0 := bcell hb n0); (try replace n1 := bcell hb n1); (try replace n2 := bcell hb n2); (try replace n3 := bcell hb n3); (try replace y0 := bcell hb y0); (try replace y1 := bcell hb y1); (try replace y2 := bcell hb y2); (try replace y3 := bcell hb y3); (try replace v0 := bcell hb v0); (try replace v1 := bcell hb v1); (try replace v2 := bcell hb v2); (try replace v3 := bcell hb v3); clear hb; refine Stop.at ?_))
              unfold Stop
              go_wp2_with (go_at_call 8; refine (awake12 _).mono ?_; rintro e wz ⟨rfl, hb⟩)
              go_ret
              exact ⟨rfl, bel_next BB.out hb⟩
          · have HGP : Hid (∀ W, NN W a n s → Calls Try.prog 10 #[.slice a n cap, .string t] W fun e w' => e = .returned (.tuple #[.agg #[.string kx, .int .i64 tx, .int .i64 rx, .string wx], .bool true]) ∧ Below W.heap.size W w') := fun W g => by
              have q := Get12_any a n cap s t W g
              rw [get12_yes hm t, hg] at q
              exact q
            have HGR : Hid (∀ W, NN W a n s → Calls Try.prog 13 #[.slice a n cap, .string t] W fun e w' => e = .returned (.agg #[.string kx, .int .i64 tx, .int .i64 rx, .string wx]) ∧ Below W.heap.size W w') := fun W g => by
              have q := Get12_ref a n cap s t W g
              rw [hg] at q
              exact q
            have hkx : ¬ kx.size = 0 := by
              have q := (mayNt_iff.1 ((mayG_iff.1 hm).1 _ (getG_some hg).1)).1
              simp [mayK] at q
              omega
            obtain ⟨k2, k3, k4⟩ := neT hkx
            clear hg hkx
            rcases hon : mayNt (k, ta, rp, wd) with _ | _
            · have HON := hide hon
              have HNO : Hid ((mayR12 s && mayNt (k, ta, rp, wd)) = false) := by unfold Hid; rw [hon, Bool.and_false]
              clear hon hm
              go_upto_region 4 with (go_at_call 9; refine (Set12_bad a n cap s k ta rp wd _ (HV.out.below BB.out) HNO.out).mono ?_; rintro e wy ⟨rfl, hb⟩; replace BB := hide (bel_next BB.out hb); (try replace HN2 := hide (HN2.out.below hb)); (try replace HN6 := hide (HN6.out.below hb)); (try replace n0 := bcell hb n0); (try replace n1 := bcell hb n1); (try replace n2 := bcell hb n2); (try replace n3 := bcell hb n3); (try replace y0 := bcell hb y0); (try replace y1 := bcell hb y1); (try replace y2 := bcell hb y2); (try replace y3 := bcell hb y3); (try replace v0 := bcell hb v0); (try replace v1 := bcell hb v1); (try replace v2 := bcell hb v2); (try replace v3 := bcell hb v3); clear hb)
              go_upto_region 5 with (go_at_call 10; refine (HGP.out _ (HV.out.below BB.out)).mono ?_; rintro e wg ⟨rfl, hb⟩; replace BB := hide (bel_next BB.out hb); (try replace HN2 := hide (HN2.out.below hb)); (try replace HN6 := hide (HN6.out.below hb)); (try replace n0 := bcell hb n0); (try replace n1 := bcell hb n1); (try replace n2 := bcell hb n2); (try replace n3 := bcell hb n3); (try replace y0 := bcell hb y0); (try replace y1 := bcell hb y1); (try replace y2 := bcell hb y2); (try replace y3 := bcell hb y3); (try replace v0 := bcell hb v0); (try replace v1 := bcell hb v1); (try replace v2 := bcell hb v2); (try replace v3 := bcell hb v3); clear hb)
              have BQ := bel1 wg (.cells #[.string kx, .int .i64 tx, .int .i64 rx, .string wx] 24)
              replace BB := hide (bel_next BB.out BQ)
              (try replace HN2 := hide (HN2.out.below BQ))
              (try replace HN6 := hide (HN6.out.below BQ))
              (try replace n0 := bcell BQ n0)
              (try replace n1 := bcell BQ n1)
              (try replace n2 := bcell BQ n2)
              (try replace n3 := bcell BQ n3)
              (try replace y0 := bcell BQ y0)
              (try replace y1 := bcell BQ y1)
              (try replace y2 := bcell BQ y2)
              (try replace y3 := bcell BQ y3)
              (try replace v0 := bcell BQ v0)
              (try replace v1 := bcell BQ v1)
              (try replace v2 := bcell BQ v2)
              (try replace v3 := bcell BQ v3)
              have y0 := cell_new wg #[.string kx, .int .i64 tx, .int .i64 rx, .string wx] 24 _ rfl 0 _ rfl
              have y1 := cell_new wg #[.string kx, .int .i64 tx, .int .i64 rx, .string wx] 24 _ rfl 1 _ rfl
              have y2 := cell_new wg #[.string kx, .int .i64 tx, .int .i64 rx, .string wx] 24 _ rfl 2 _ rfl
              have y3 := cell_new wg #[.string kx, .int .i64 tx, .int .i64 rx, .string wx] 24 _ rfl 3 _ rfl
              clear BQ
              go_upto_region 9 with (first | (go_at_call 11; refine (Check12_any a n cap s _ (HV.out.below BB.out)).mono ?_; rintro e wy ⟨rfl, hb⟩; rw [HCK.out]; replace BB := hide (bel_next BB.out hb); (try replace HN2 := hide (HN2.out.below hb)); (try replace HN6 := hide (HN6.out.below hb)); (try replace n0 := bcell hb n0); (try replace n1 := bcell hb n1); (try replace n2 := bcell hb n2); (try replace n3 := bcell hb n3); (try replace y0 := bcell hb y0); (try replace y1 := bcell hb y1); (try replace y2 := bcell hb y2); (try replace y3 := bcell hb y3); (try replace v0 := bcell hb v0); (try replace v1 := bcell hb v1); (try replace v2 := bcell hb v2); (try replace v3 := bcell hb v3); clear hb) | (go_at_call 12; refine (May12_ref a n cap s _ (HV.out.below BB.out)).mono ?_; rintro e wy ⟨rfl, hb⟩; rw [HMS.out]; replace BB := hide (bel_next BB.out hb); (try replace HN2 := hide (HN2.out.below hb)); (try replace HN6 := hide (HN6.out.below hb)); (try replace n0 := bcell hb n0); (try replace n1 := bcell hb n1); (try replace n2 := bcell hb n2); (try replace n3 := bcell hb n3); (try replace y0 := bcell hb y0); (try replace y1 := bcell hb y1); (try replace y2 := bcell hb y2); (try replace y3 := bcell hb y3); (try replace v0 := bcell hb v0); (try replace v1 := bcell hb v1); (try replace v2 := bcell hb v2); (try replace v3 := bcell hb v3); clear hb))
              go_upto_region 10 with (go_at_call 13; refine (HGR.out _ (HV.out.below BB.out)).mono ?_; rintro e wh ⟨rfl, hb⟩; replace BB := hide (bel_next BB.out hb); (try replace HN2 := hide (HN2.out.below hb)); (try replace HN6 := hide (HN6.out.below hb)); (try replace n0 := bcell hb n0); (try replace n1 := bcell hb n1); (try replace n2 := bcell hb n2); (try replace n3 := bcell hb n3); (try replace y0 := bcell hb y0); (try replace y1 := bcell hb y1); (try replace y2 := bcell hb y2); (try replace y3 := bcell hb y3); (try replace v0 := bcell hb v0); (try replace v1 := bcell hb v1); (try replace v2 := bcell hb v2); (try replace v3 := bcell hb v3); clear hb)
              have BQ := bel1 wh (.cells #[.string kx, .int .i64 tx, .int .i64 rx, .string wx] 24)
              replace BB := hide (bel_next BB.out BQ)
              (try replace HN2 := hide (HN2.out.below BQ))
              (try replace HN6 := hide (HN6.out.below BQ))
              (try replace n0 := bcell BQ n0)
              (try replace n1 := bcell BQ n1)
              (try replace n2 := bcell BQ n2)
              (try replace n3 := bcell BQ n3)
              (try replace y0 := bcell BQ y0)
              (try replace y1 := bcell BQ y1)
              (try replace y2 := bcell BQ y2)
              (try replace y3 := bcell BQ y3)
              (try replace v0 := bcell BQ v0)
              (try replace v1 := bcell BQ v1)
              (try replace v2 := bcell BQ v2)
              (try replace v3 := bcell BQ v3)
              have v0 := cell_new wh #[.string kx, .int .i64 tx, .int .i64 rx, .string wx] 24 _ rfl 0 _ rfl
              have v1 := cell_new wh #[.string kx, .int .i64 tx, .int .i64 rx, .string wx] 24 _ rfl 1 _ rfl
              have v2 := cell_new wh #[.string kx, .int .i64 tx, .int .i64 rx, .string wx] 24 _ rfl 2 _ rfl
              have v3 := cell_new wh #[.string kx, .int .i64 tx, .int .i64 rx, .string wx] 24 _ rfl 3 _ rfl
              clear BQ
              go_upto_region 12 with fail
              go_wp2_with (first | (go_at_call 14; refine (One12_ref k ta rp wd _).mono ?_; rintro e wy ⟨rfl, hb⟩; rw [HON.out]; replace BB := hide (bel_next BB.out hb); (try replace HN2 := hide (HN2.out.below hb)); (try replace HN6 := hide (HN6.out.below hb)); (try replace n0 := bcell hb n0); (try replace n1 := bcell hb n1); (try replace n2 := bcell hb n2); (try replace n3 := bcell hb n3); (try replace y0 := bcell hb y0); (try replace y1 := bcell hb y1); (try replace y2 := bcell hb y2); (try replace y3 := bcell hb y3); (try replace v0 := bcell hb v0); (try replace v1 := bcell hb v1); (try replace v2 := bcell hb v2); (try replace v3 := bcell hb v3); clear hb) | (go_at_call 8; refine (awake12 _).mono ?_; rintro e wz ⟨rfl, hb⟩))
              go_ret
              exact ⟨rfl, bel_next BB.out hb⟩
            · have HON := hide hon
              have HAD : Hid (∀ W, NN W a n s → Calls Try.prog 9 #[.slice a n cap, .agg #[.string k, .int .i64 ta, .int .i64 rp, .string wd]] W fun e w' => ∃ p cp, e = .returned (.tuple #[.slice p (setN s (k, ta, rp, wd)).length cp, .int .i64 0]) ∧ NN w' p (setN s (k, ta, rp, wd)).length (setN s (k, ta, rp, wd)) ∧ CP p (setN s (k, ta, rp, wd)).length cp ∧ Below W.heap.size W w') := fun W g => Set12_good a n cap s k ta rp wd W g HCP.out hm hon (by rw [HLEN.out]; omega)
              have HSR : Hid (∀ W, NN W a n s → Calls Try.prog 16 #[.slice a n cap, .agg #[.string k, .int .i64 ta, .int .i64 rp, .string wd]] W fun e w' => ∃ p cp, e = .returned (.slice p (setN s (k, ta, rp, wd)).length cp) ∧ NN w' p (setN s (k, ta, rp, wd)).length (setN s (k, ta, rp, wd)) ∧ CP p (setN s (k, ta, rp, wd)).length cp ∧ Below W.heap.size W w') := fun W g => Set12_ref a n cap s k ta rp wd W g HCP.out hm (mayNt_iff.1 hon).1 (by omega)
              clear hon hm
              generalize setN s (k, ta, rp, wd) = A at *
              generalize A.length = nA at *
              go_upto_region 4 with (go_at_call 9; refine (HAD.out _ (HV.out.below BB.out)).mono ?_; rintro e wy ⟨p2, c2, rfl, hn2, hc2, hb⟩; replace BB := hide (bel_next BB.out hb); (try replace HN2 := hide (HN2.out.below hb)); (try replace HN6 := hide (HN6.out.below hb)); (try replace n0 := bcell hb n0); (try replace n1 := bcell hb n1); (try replace n2 := bcell hb n2); (try replace n3 := bcell hb n3); (try replace y0 := bcell hb y0); (try replace y1 := bcell hb y1); (try replace y2 := bcell hb y2); (try replace y3 := bcell hb y3); (try replace v0 := bcell hb v0); (try replace v1 := bcell hb v1); (try replace v2 := bcell hb v2); (try replace v3 := bcell hb v3); have HN2 := hide hn2; clear hn2 hc2 hb)
              go_upto_region 5 with (go_at_call 10; refine (HGP.out _ (HV.out.below BB.out)).mono ?_; rintro e wg ⟨rfl, hb⟩; replace BB := hide (bel_next BB.out hb); (try replace HN2 := hide (HN2.out.below hb)); (try replace HN6 := hide (HN6.out.below hb)); (try replace n0 := bcell hb n0); (try replace n1 := bcell hb n1); (try replace n2 := bcell hb n2); (try replace n3 := bcell hb n3); (try replace y0 := bcell hb y0); (try replace y1 := bcell hb y1); (try replace y2 := bcell hb y2); (try replace y3 := bcell hb y3); (try replace v0 := bcell hb v0); (try replace v1 := bcell hb v1); (try replace v2 := bcell hb v2); (try replace v3 := bcell hb v3); clear hb)
              have BQ := bel1 wg (.cells #[.string kx, .int .i64 tx, .int .i64 rx, .string wx] 24)
              replace BB := hide (bel_next BB.out BQ)
              (try replace HN2 := hide (HN2.out.below BQ))
              (try replace HN6 := hide (HN6.out.below BQ))
              (try replace n0 := bcell BQ n0)
              (try replace n1 := bcell BQ n1)
              (try replace n2 := bcell BQ n2)
              (try replace n3 := bcell BQ n3)
              (try replace y0 := bcell BQ y0)
              (try replace y1 := bcell BQ y1)
              (try replace y2 := bcell BQ y2)
              (try replace y3 := bcell BQ y3)
              (try replace v0 := bcell BQ v0)
              (try replace v1 := bcell BQ v1)
              (try replace v2 := bcell BQ v2)
              (try replace v3 := bcell BQ v3)
              have y0 := cell_new wg #[.string kx, .int .i64 tx, .int .i64 rx, .string wx] 24 _ rfl 0 _ rfl
              have y1 := cell_new wg #[.string kx, .int .i64 tx, .int .i64 rx, .string wx] 24 _ rfl 1 _ rfl
              have y2 := cell_new wg #[.string kx, .int .i64 tx, .int .i64 rx, .string wx] 24 _ rfl 2 _ rfl
              have y3 := cell_new wg #[.string kx, .int .i64 tx, .int .i64 rx, .string wx] 24 _ rfl 3 _ rfl
              clear BQ
              go_upto_region 9 with (first | (go_at_call 11; refine (Check12_any a n cap s _ (HV.out.below BB.out)).mono ?_; rintro e wy ⟨rfl, hb⟩; rw [HCK.out]; replace BB := hide (bel_next BB.out hb); (try replace HN2 := hide (HN2.out.below hb)); (try replace HN6 := hide (HN6.out.below hb)); (try replace n0 := bcell hb n0); (try replace n1 := bcell hb n1); (try replace n2 := bcell hb n2); (try replace n3 := bcell hb n3); (try replace y0 := bcell hb y0); (try replace y1 := bcell hb y1); (try replace y2 := bcell hb y2); (try replace y3 := bcell hb y3); (try replace v0 := bcell hb v0); (try replace v1 := bcell hb v1); (try replace v2 := bcell hb v2); (try replace v3 := bcell hb v3); clear hb) | (go_at_call 12; refine (May12_ref a n cap s _ (HV.out.below BB.out)).mono ?_; rintro e wy ⟨rfl, hb⟩; rw [HMS.out]; replace BB := hide (bel_next BB.out hb); (try replace HN2 := hide (HN2.out.below hb)); (try replace HN6 := hide (HN6.out.below hb)); (try replace n0 := bcell hb n0); (try replace n1 := bcell hb n1); (try replace n2 := bcell hb n2); (try replace n3 := bcell hb n3); (try replace y0 := bcell hb y0); (try replace y1 := bcell hb y1); (try replace y2 := bcell hb y2); (try replace y3 := bcell hb y3); (try replace v0 := bcell hb v0); (try replace v1 := bcell hb v1); (try replace v2 := bcell hb v2); (try replace v3 := bcell hb v3); clear hb))
              go_upto_region 10 with (go_at_call 13; refine (HGR.out _ (HV.out.below BB.out)).mono ?_; rintro e wh ⟨rfl, hb⟩; replace BB := hide (bel_next BB.out hb); (try replace HN2 := hide (HN2.out.below hb)); (try replace HN6 := hide (HN6.out.below hb)); (try replace n0 := bcell hb n0); (try replace n1 := bcell hb n1); (try replace n2 := bcell hb n2); (try replace n3 := bcell hb n3); (try replace y0 := bcell hb y0); (try replace y1 := bcell hb y1); (try replace y2 := bcell hb y2); (try replace y3 := bcell hb y3); (try replace v0 := bcell hb v0); (try replace v1 := bcell hb v1); (try replace v2 := bcell hb v2); (try replace v3 := bcell hb v3); clear hb)
              have BQ := bel1 wh (.cells #[.string kx, .int .i64 tx, .int .i64 rx, .string wx] 24)
              replace BB := hide (bel_next BB.out BQ)
              (try replace HN2 := hide (HN2.out.below BQ))
              (try replace HN6 := hide (HN6.out.below BQ))
              (try replace n0 := bcell BQ n0)
              (try replace n1 := bcell BQ n1)
              (try replace n2 := bcell BQ n2)
              (try replace n3 := bcell BQ n3)
              (try replace y0 := bcell BQ y0)
              (try replace y1 := bcell BQ y1)
              (try replace y2 := bcell BQ y2)
              (try replace y3 := bcell BQ y3)
              (try replace v0 := bcell BQ v0)
              (try replace v1 := bcell BQ v1)
              (try replace v2 := bcell BQ v2)
              (try replace v3 := bcell BQ v3)
              have v0 := cell_new wh #[.string kx, .int .i64 tx, .int .i64 rx, .string wx] 24 _ rfl 0 _ rfl
              have v1 := cell_new wh #[.string kx, .int .i64 tx, .int .i64 rx, .string wx] 24 _ rfl 1 _ rfl
              have v2 := cell_new wh #[.string kx, .int .i64 tx, .int .i64 rx, .string wx] 24 _ rfl 2 _ rfl
              have v3 := cell_new wh #[.string kx, .int .i64 tx, .int .i64 rx, .string wx] 24 _ rfl 3 _ rfl
              clear BQ
              go_upto_region 12 with fail
              go_wp2_with (first | (go_at_call 14; refine (One12_ref k ta rp wd _).mono ?_; rintro e wy ⟨rfl, hb⟩; rw [HON.out]; replace BB := hide (bel_next BB.out hb); (try replace HN2 := hide (HN2.out.below hb)); (try replace HN6 := hide (HN6.out.below hb)); (try replace n0 := bcell hb n0); (try replace n1 := bcell hb n1); (try replace n2 := bcell hb n2); (try replace n3 := bcell hb n3); (try replace y0 := bcell hb y0); (try replace y1 := bcell hb y1); (try replace y2 := bcell hb y2); (try replace y3 := bcell hb y3); (try replace v0 := bcell hb v0); (try replace v1 := bcell hb v1); (try replace v2 := bcell hb v2); (try replace v3 := bcell hb v3); clear hb) | (go_at_call 16; refine (HSR.out _ (HV.out.below BB.out)).mono ?_; rintro e wy ⟨p6, c6, rfl, hn6, hc6, hb⟩; replace BB := hide (bel_next BB.out hb); (try replace HN2 := hide (HN2.out.below hb)); (try replace HN6 := hide (HN6.out.below hb)); (try replace n0 := bcell hb n0); (try replace n1 := bcell hb n1); (try replace n2 := bcell hb n2); (try replace n3 := bcell hb n3); (try replace y0 := bcell hb y0); (try replace y1 := bcell hb y1); (try replace y2 := bcell hb y2); (try replace y3 := bcell hb y3); (try replace v0 := bcell hb v0); (try replace v1 := bcell hb v1); (try replace v2 := bcell hb v2); (try replace v3 := bcell hb v3); have HN6 := hide hn6; clear hn6 hc6 hb) | (go_at_call 15; refine (Same12_ref p2 nA c2 A p6 nA c6 A _ HN2.out HN6.out).mono ?_; rintro e wy ⟨rfl, hb⟩; rw [decide_eq_true (rfl : A = A)]; replace BB := hide (bel_next BB.out hb); (try replace HN2 := hide (HN2.out.below hb)); (try replace HN6 := hide (HN6.out.below hb)); (try replace n0 := bcell hb n0); (try replace n1 := bcell hb n1); (try replace n2 := bcell hb n2); (try replace n3 := bcell hb n3); (try replace y0 := bcell hb y0); (try replace y1 := bcell hb y1); (try replace y2 := bcell hb y2); (try replace y3 := bcell hb y3); (try replace v0 := bcell hb v0); (try replace v1 := bcell hb v1); (try replace v2 := bcell hb v2); (try replace v3 := bcell hb v3); clear hb; refine Stop.at ?_))
              unfold Stop
              go_wp2_with (go_at_call 8; refine (awake12 _).mono ?_; rintro e wz ⟨rfl, hb⟩)
              go_ret
              exact ⟨rfl, bel_next BB.out hb⟩
      · go_wp2_with (go_at_call 8; refine (awake12 _).mono ?_; rintro e wz ⟨rfl, hb⟩)
        go_ret
        exact ⟨rfl, bel_next BB.out hb⟩

/-! ### The row's step -/
set_option maxRecDepth 100000 in
theorem lifted (os : Os) (started : os.Started) (H : Type) (enc : TypeId × Value → H) :
    ReturnsInHanded {} Try.checked os 3 .any (Rows.registerSetsSpec.pre6 enc Try.prog Try.f3 Rows.registerSetsRow.domain false) (Rows.registerSetsSpec.post enc Try.prog Try.f3 false true false false) := by
  refine returnsInHanded_of_change_sized (C := Try.checked) own started (by kernel_rfl) Try.func3
    (ChangeSpec.witness6 (enc := enc) (C := Try.checked) false ⟨#[], #[.slice none 0 0, .agg #[.string ⟨#[]⟩, .int .i64 0, .int .i64 0, .string ⟨#[]⟩], .string ⟨#[]⟩], []⟩ 8 (by kernel_rfl) (by kernel_rfl) (by kernel_rfl) (by kernel_rfl)) ?_
  intro W base args ds gs before hval0 hW hcnd hz0 _
  have hval : ∀ (j : Nat) t v, Try.f3.params[j]? = some t → args[j]? = some v → Value.okWide Try.prog W .any base t v := hval0
  have hz : (DataW.weightsEach Try.prog (Try.f3.params.toList ++ Rows.registerSetsSpec.plain.varTypes Try.prog) (ds ++ gs)).all (· ≤ reachBytes) = true := hz0
  have hW' := hW
  obtain ⟨p, q, hA0, hV, rfl, hfz, hnd⟩ := hW
  have hA : DataW.TrodAll enc Try.prog W 0 (fun _ => true) true Try.f3.params.toList args.toList ds p := hA0
  rw [Try.params3] at hA hval hz
  obtain ⟨v0, vs0, d0, ds0, p0, q0, hargs, rfl, rfl, h0, r0⟩ := trodAll_cons hA
  obtain ⟨v1, vs1, d1, ds1, p1, q1, rfl, rfl, rfl, h1, r1⟩ := trodAll_cons r0
  obtain ⟨v2, vs2, d2, ds2, p2, q2, rfl, rfl, rfl, h2, r2⟩ := trodAll_cons r1
  obtain ⟨rfl, rfl, rfl⟩ := trodAll_nil r2
  obtain rfl : args = #[v0, v1, v2] := by cases args; simp_all
  obtain ⟨rfl, rfl⟩ := trodVars_none hV
  have k0 := h0
  have lt0 : ∀ x ∈ p0, x.block < W.heap.size := by obtain ⟨m, hm⟩ := k0; exact DataW.trod_lt m _ _ _ hm
  have w0 : InNn W v0 := in_notes (hval 0 22 v0 rfl rfl) h0 (fun n hn => by have := List.all_eq_true.1 hz n (DataW.weights_mem_each (j := 0) (t := 22) rfl rfl n hn); simpa using this)
  have k1 := h1
  have lt1 : ∀ x ∈ p1, x.block < W.heap.size := by obtain ⟨m, hm⟩ := k1; exact DataW.trod_lt m _ _ _ hm
  have w1 : InNo W v1 := in_note (hval 1 24 v1 rfl rfl) h1 (fun n hn => by have := List.all_eq_true.1 hz n (DataW.weights_mem_each (j := 1) (t := 24) rfl rfl n hn); simpa using this)
  have k2 := h2
  have lt2 : ∀ x ∈ p2, x.block < W.heap.size := by obtain ⟨m, hm⟩ := k2; exact DataW.trod_lt m _ _ _ hm
  have w2 : InS10 W v2 := in_str10 (hval 2 9 v2 rfl rfl) h2 (fun n hn => by have := List.all_eq_true.1 hz n (DataW.weights_mem_each (j := 2) (t := 9) rfl rfl n hn); simpa using this)
  clear hA0 hval0 hz0
  refine (walk v0 v1 v2 W w0 w1 w2).mono fun e W' ⟨he, bel⟩ => ?_
  subst he
  exact ⟨_, rfl, _, _, _, [], _, [], hW', trodAll_mk1 (shut_bool Try.underlying4 _), (trodAll_cons_mk (Below.trod laidOut (by kernel_rfl) (of_decide_eq_true (by kernel_rfl)) k0 bel lt0) (trodAll_cons_mk (Below.trod laidOut (by kernel_rfl) (of_decide_eq_true (by kernel_rfl)) k1 bel lt1) (trodAll_cons_mk (Below.trod laidOut (by kernel_rfl) (of_decide_eq_true (by kernel_rfl)) k2 bel lt2) trodAll_mk0))), rfl, bel.frame _, fun h => by cases h⟩

theorem over : Rows.registerSetsRow.holds Try.pinned (OpenSpec.ofChange Rows.registerSetsSpec) :=
  OpenClaim.holds_of_wide 3 Try.f3 rfl rfl rfl rfl rfl rfl rfl ⟨rfl, rfl, rfl, rfl, rfl⟩ rfl rfl rfl rfl rfl (by kernel_rfl) Try.func3 (by kernel_rfl)
    (of_decide_eq_true (by kernel_rfl)) (by unfold Func.isWrapper; first | (rw [if_pos (by decide +kernel)]; kernel_rfl) | (rw [if_neg (by decide +kernel)]; exact ⟨rfl, rfl⟩))
    (fun os started H enc _ => lifted os started H enc)
end Go.Proofs.Ytohkopjacpendaa.registerSets
namespace Go.Proofs.Ytohkopjacpendaa
theorem registerSets_holds : Rows.RegisterSetsSaid := registerSets.over
end Go.Proofs.Ytohkopjacpendaa
