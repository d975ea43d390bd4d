/- Behind any sets a key has one of its notes, and none of these is later. -/
import Derived.Test.YtohkopjacpendaaRows
import Derived.WalkKit
import Derived.ProofKit
import Derived.OpenShut
import Derived.ShutString
import Derived.ChangeOld
import Derived.Below
import Derived.SizedLaws
import Derived.Test.YtohkopjacpendaaGNq
import Derived.Test.YtohkopjacpendaaGNr
namespace Go.Proofs.Ytohkopjacpendaa.registerLast
open Go.ChangeShapes Go.WideShapes Go.ChangeAt Go.RowKit
set_option linter.unusedVariables false

theorem own : ownKnob Try.prog.godebug = none := by kernel_rfl
theorem laidOut : laidOutB Try.prog = true := by kernel_rfl

set_option maxHeartbeats 16000000 in
theorem walk (v0 : Value) (v1 : Value) (w : World) (w0 : InNn w v0) (w1 : InS10 w v1) :
    Calls Try.prog 6 #[v0, v1] w fun e w' => e = .returned (.bool true) ∧ Below w.heap.size w w' := by
  obtain ⟨a, n, cap, s, rfl, hA, hcp⟩ := w0
  obtain ⟨t, rfl⟩ := w1
  have HV := hide hA
  have HLEN := hide hA.1
  have BB : Hid (Below w.heap.size w w) := Below.refl _ _
  clear hA hcp
  go_enter Try.func6, Try.ntmps6
  go_wp2_with (go_at_call 7; refine (light12 a n cap s _ HV.out).mono ?_; rintro e w1 ⟨bl, rfl, hl, rfl⟩; refine Stop.at ?_)
  unfold Stop
  cases bl
  · clear hl
    go_wp2_with (go_at_call 8; refine (awake12 _).mono ?_; rintro e wz ⟨rfl, hb⟩)
    go_ret
    exact ⟨rfl, bel_next BB.out hb⟩
  · obtain ⟨hn60, hfew⟩ := hl rfl
    clear hl hfew
    by_cases h1 : (t.size : Int) ≤ 100
    · have HB0 := hide (bel1 w1 (.cells #[] 24))
      go_wp2
      go_loopw [5, 6] (fun V v wr => ∃ (k : Nat) (ps : Option Addr) (cs : Nat) (A : List Nt), k ≤ n ∧ v = .int .i64 k ∧ V = .slice ps A.length cs ∧ Hid (NN wr ps A.length A) ∧ Hid (CP ps A.length cs) ∧ Hid (RL s A k) ∧ Hid (Below w1.heap.size w1 wr)) (fun _ v _ => n - (intOf v).toNat)
      case atStart => exact ⟨0, _, 0, [], by omega, rfl, rfl, (show Hid _ from NN.nil _ _), (show Hid _ from ⟨Nat.le_refl _, by decide, fun h => by cases h⟩), RL.nil s, HB0⟩
      case round =>
        clear HB0
        obtain ⟨k0, ps, cs, A, hk, rfl, rfl, HNA, HCA, HRL, HB⟩ := hrel
        by_cases hlt : k0 < n
        · have hk0 : (0 : Int) ≤ (k0 : Int) := by omega
          have hk1 : (k0 : Int) < (n : Int) := by omega
          obtain ⟨b, off, rfl⟩ := HV.out.addr (by omega)
          obtain ⟨k, ta, rp, wd, hx, c0, c1, c2, c3⟩ := (HV.out.below HB.out).at k0 (by omega)
          have HX := hide hx
          clear hx
          obtain ⟨ns, hns⟩ : ∃ x, A.length = x := ⟨_, rfl⟩
          have HLns := hide hns
          rw [hns] at HNA HCA ⊢
          clear hns
          rcases hon : mayNt (k, ta, rp, wd) with _ | _
          · have HNO : Hid ((mayR12 A && mayNt (k, ta, rp, wd)) = false) := by unfold Hid; rw [hon, Bool.and_false]
            have HRL2 : Hid (RL s A (k0 + 1)) := HRL.out.skip HX.out hon
            clear hon
            go_wp2_with (go_at_call 9; refine (Set12_bad ps ns cs A k ta rp wd _ HNA.out HNO.out).mono ?_; rintro e wn ⟨rfl, hb⟩; replace HB := hide (bel_next HB.out hb); replace HNA := hide (HNA.out.below hb); clear hb)
            go_roundw
            case rel => exact ⟨k0 + 1, ps, cs, A, by omega, by go_num, (by rw [HLns.out]), (show Hid _ by rw [HLns.out]; exact HNA.out), (show Hid _ by rw [HLns.out]; exact HCA.out), HRL2, HB⟩
            case measure => simp [intOf]; omega
          · have HON := hide hon
            have HMA : Hid (mayR12 A = true) := HRL.out.2.1
            have HLA4 : Hid (A.length < 4000) := by have h := HRL.out.2.2; unfold Hid; omega
            have HRL2 : Hid (RL s (setN A (k, ta, rp, wd)) (k0 + 1)) := HRL.out.step HX.out hon (by omega)
            clear hon
            go_wp2_with (go_at_call 9; refine (Set12_good ps ns cs A k ta rp wd _ HNA.out HCA.out HMA.out HON.out HLA4.out).mono ?_; rintro e wn ⟨p9, c9, rfl, hn9, hc9, hb⟩; have HN9 := hide hn9; have HC9 := hide hc9; replace HB := hide (bel_next HB.out hb); clear hn9 hc9 hb)
            go_roundw
            case rel => exact ⟨k0 + 1, p9, c9, setN A (k, ta, rp, wd), by omega, by go_num, rfl, HN9, HC9, HRL2, HB⟩
            case measure => simp [intOf]; omega
        · obtain rfl : k0 = n := by omega
          generalize hww : wr = wA at *
          clear hww
          obtain ⟨na, hna⟩ : ∃ x, A.length = x := ⟨_, rfl⟩
          rw [hna] at HNA HCA ⊢
          clear hna
          rcases hg : getG kN A t with _ | ⟨kx, tx, rx, wx⟩
          · have HGP : Hid (∀ W, NN W ps na A → Calls Try.prog 10 #[.slice ps na cs, .string t] W fun e w' => e = .returned (.tuple #[.agg #[.string ⟨#[]⟩, .int .i64 0, .int .i64 0, .string ⟨#[]⟩], .bool false]) ∧ Below W.heap.size W w') := fun W g => by
              have q := Get12_any ps na cs A t W g
              rw [get12_yes HRL.out.2.1 t, hg] at q
              exact q
            have HEND : Hid (smN s t none k0 = false) := by have h := HRL.out.end HLEN.out t; rw [hg] at h; exact h
            have HLATE : Hid (∀ k x, s[k]? = some x → mayNt x = true → x.1 = t → ∃ y, none = some y ∧ laterN x y = false) := fun k x hx hm he => HRL.out.late HLEN.out hx hm (by rw [he]; exact hg)
            clear hg
            go_upto_region 11 with (go_at_call 10; refine (HGP.out _ HNA.out).mono ?_; rintro e wg ⟨rfl, hb⟩; replace HB := hide (bel_next HB.out hb); clear hb)
            have BQ := hide (bel1 wg (.cells #[.string ⟨#[]⟩, .int .i64 0, .int .i64 0, .string ⟨#[]⟩] 24))
            have q0 := cell_new wg #[.string ⟨#[]⟩, .int .i64 0, .int .i64 0, .string ⟨#[]⟩] 24 _ rfl 0 _ rfl
            have q1 := cell_new wg #[.string ⟨#[]⟩, .int .i64 0, .int .i64 0, .string ⟨#[]⟩] 24 _ rfl 1 _ rfl
            have q2 := cell_new wg #[.string ⟨#[]⟩, .int .i64 0, .int .i64 0, .string ⟨#[]⟩] 24 _ rfl 2 _ rfl
            have q3 := cell_new wg #[.string ⟨#[]⟩, .int .i64 0, .int .i64 0, .string ⟨#[]⟩] 24 _ rfl 3 _ rfl
            replace HB := hide (bel_next HB.out BQ.out)
            clear BQ
            generalize wg.heap.size = gy at *
            generalize wg.alloc (.cells #[.string ⟨#[]⟩, .int .i64 0, .int .i64 0, .string ⟨#[]⟩] 24) = wB at *
            have Q0 := hide q0
            have Q1 := hide q1
            have Q2 := hide q2
            have Q3 := hide q3
            clear q0 q1 q2 q3 HNA HCA HRL
            go_wp2
            go_loopw [11, 12] (fun vs v wr => ∃ (k : Nat) (sm : Bool), k ≤ k0 ∧ v = .int .i64 k ∧ vs = .bool sm ∧ Hid (smN s t none k = sm) ∧ Hid (Below wB.heap.size wB wr)) (fun _ v _ => k0 - (intOf v).toNat)
            case atStart => exact ⟨0, false, by omega, rfl, rfl, smN_zero _ _ _, Below.refl _ _⟩
            case round =>
              obtain ⟨i0, sm, hk, rfl, rfl, HSM, HB2⟩ := hrel
              by_cases hlt : i0 < k0
              · have hk0 : (0 : Int) ≤ (i0 : Int) := by omega
                have hk1 : (i0 : Int) < (k0 : Int) := by omega
                obtain ⟨b, off, rfl⟩ := HV.out.addr (by omega)
                obtain ⟨k, ta, rp, wd, hx, c0, c1, c2, c3⟩ := (HV.out.below (bel_next HB.out HB2.out)).at i0 (by omega)
                have HX := hide hx
                clear hx
                have hq := eqK k t
                by_cases he : k = t
                · rw [decide_eq_true he] at hq
                  rcases hon : mayNt (k, ta, rp, wd) with _ | _
                  · have HON := hide hon
                    have HSM2 : Hid (smN s t none (i0 + 1) = sm) := by unfold Hid; rw [smN_skip2 HX.out hon, HSM.out]
                    clear hon he
                    go_wp2_with (go_at_call 14; refine (One12_ref k ta rp wd _).mono ?_; rintro e wo ⟨rfl, hb⟩; rw [HON.out]; replace HB2 := hide (bel_next HB2.out hb); replace c0 := bcell hb c0; replace c1 := bcell hb c1; replace c2 := bcell hb c2; replace c3 := bcell hb c3; (try replace y0 := bcell hb y0); (try replace y1 := bcell hb y1); (try replace y2 := bcell hb y2); (try replace y3 := bcell hb y3); clear hb)
                    go_roundw
                    case rel => exact ⟨i0 + 1, sm, by omega, by go_num, rfl, HSM2, HB2⟩
                    case measure => simp [intOf]; omega
                  · have HON := hide hon
                    obtain ⟨y, hy, _⟩ := HLATE.out i0 _ HX.out hon he
                    cases hy
                · rw [decide_eq_false he] at hq
                  have HSM2 : Hid (smN s t none (i0 + 1) = sm) := by unfold Hid; rw [smN_skip1 HX.out he, HSM.out]
                  go_wp2
                  go_roundw
                  case rel => exact ⟨i0 + 1, sm, by omega, by go_num, rfl, HSM2, HB2⟩
                  case measure => simp [intOf]; omega
              · obtain rfl : i0 = k0 := by omega
                have HSE : Hid (sm = false) := by unfold Hid; rw [← HSM.out]; exact HEND.out
                obtain rfl := HSE.out
                replace HB2 := hide (bel_next HB.out HB2.out)
                go_wp2_with (go_at_call 8; refine (awake12 _).mono ?_; rintro e wz ⟨rfl, hb⟩)
                go_ret
                exact ⟨rfl, bel_next HB2.out hb⟩
          · obtain rfl : kx = t := (getG_some hg).2
            have HGP : Hid (∀ W, NN W ps na A → Calls Try.prog 10 #[.slice ps na cs, .string kx] W fun e w' => e = .returned (.tuple #[.agg #[.string kx, .int .i64 tx, .int .i64 rx, .string wx], .bool true]) ∧ Below W.heap.size W w') := fun W g => by
              have q := Get12_any ps na cs A kx W g
              rw [get12_yes HRL.out.2.1 kx, hg] at q
              exact q
            have HEND : Hid (smN s kx (some (kx, tx, rx, wx)) k0 = true) := by have h := HRL.out.end HLEN.out kx; rw [hg] at h; exact h
            have HLATE : Hid (∀ k x, s[k]? = some x → mayNt x = true → x.1 = kx → ∃ y, (some (kx, tx, rx, wx)) = some y ∧ laterN x y = false) := fun k x hx hm he => HRL.out.late HLEN.out hx hm (by rw [he]; exact hg)
            clear hg
            go_upto_region 11 with (go_at_call 10; refine (HGP.out _ HNA.out).mono ?_; rintro e wg ⟨rfl, hb⟩; replace HB := hide (bel_next HB.out hb); clear hb)
            have BQ := hide (bel1 wg (.cells #[.string kx, .int .i64 tx, .int .i64 rx, .string wx] 24))
            have q0 := cell_new wg #[.string kx, .int .i64 tx, .int .i64 rx, .string wx] 24 _ rfl 0 _ rfl
            have q1 := cell_new wg #[.string kx, .int .i64 tx, .int .i64 rx, .string wx] 24 _ rfl 1 _ rfl
            have q2 := cell_new wg #[.string kx, .int .i64 tx, .int .i64 rx, .string wx] 24 _ rfl 2 _ rfl
            have q3 := cell_new wg #[.string kx, .int .i64 tx, .int .i64 rx, .string wx] 24 _ rfl 3 _ rfl
            replace HB := hide (bel_next HB.out BQ.out)
            clear BQ
            generalize wg.heap.size = gy at *
            generalize wg.alloc (.cells #[.string kx, .int .i64 tx, .int .i64 rx, .string wx] 24) = wB at *
            have Q0 := hide q0
            have Q1 := hide q1
            have Q2 := hide q2
            have Q3 := hide q3
            clear q0 q1 q2 q3 HNA HCA HRL
            go_wp2
            go_loopw [11, 12] (fun vs v wr => ∃ (k : Nat) (sm : Bool), k ≤ k0 ∧ v = .int .i64 k ∧ vs = .bool sm ∧ Hid (smN s kx (some (kx, tx, rx, wx)) k = sm) ∧ Hid (Below wB.heap.size wB wr)) (fun _ v _ => k0 - (intOf v).toNat)
            case atStart => exact ⟨0, false, by omega, rfl, rfl, smN_zero _ _ _, Below.refl _ _⟩
            case round =>
              obtain ⟨i0, sm, hk, rfl, rfl, HSM, HB2⟩ := hrel
              by_cases hlt : i0 < k0
              · have hk0 : (0 : Int) ≤ (i0 : Int) := by omega
                have hk1 : (i0 : Int) < (k0 : Int) := by omega
                obtain ⟨b, off, rfl⟩ := HV.out.addr (by omega)
                obtain ⟨k, ta, rp, wd, hx, c0, c1, c2, c3⟩ := (HV.out.below (bel_next HB.out HB2.out)).at i0 (by omega)
                have HX := hide hx
                clear hx
                have hq := eqK k kx
                by_cases he : k = kx
                · rw [decide_eq_true he] at hq
                  rcases hon : mayNt (k, ta, rp, wd) with _ | _
                  · have HON := hide hon
                    have HSM2 : Hid (smN s kx (some (kx, tx, rx, wx)) (i0 + 1) = sm) := by unfold Hid; rw [smN_skip2 HX.out hon, HSM.out]
                    clear hon he
                    go_wp2_with (go_at_call 14; refine (One12_ref k ta rp wd _).mono ?_; rintro e wo ⟨rfl, hb⟩; rw [HON.out]; replace HB2 := hide (bel_next HB2.out hb); replace c0 := bcell hb c0; replace c1 := bcell hb c1; replace c2 := bcell hb c2; replace c3 := bcell hb c3; (try replace y0 := bcell hb y0); (try replace y1 := bcell hb y1); (try replace y2 := bcell hb y2); (try replace y3 := bcell hb y3); clear hb)
                    go_roundw
                    case rel => exact ⟨i0 + 1, sm, by omega, by go_num, rfl, HSM2, HB2⟩
                    case measure => simp [intOf]; omega
                  · have HON := hide hon
                    subst he
                    have HLT : Hid (laterN (k, ta, rp, wd) (k, tx, rx, wx) = false) := by
                      obtain ⟨y, hy, hl⟩ := HLATE.out i0 _ HX.out hon rfl
                      cases hy
                      exact hl
                    have HST : Hid (smN s k (some (k, tx, rx, wx)) (i0 + 1) = (sm || decide ((k, tx, rx, wx) = (k, ta, rp, wd)))) := by unfold Hid; rw [smN_take HX.out hon rfl, HSM.out]
                    have y0 := bcell HB2.out Q0.out
                    have y1 := bcell HB2.out Q1.out
                    have y2 := bcell HB2.out Q2.out
                    have y3 := bcell HB2.out Q3.out
                    clear hon
                    cases sm
                    · by_cases e1 : ta = tx
                      · by_cases e2 : rp = rx
                        · have hp := eqK wd wx
                          by_cases e3 : wd = wx
                          · rw [decide_eq_true e3] at hp
                            have HSM2 : Hid (smN s k (some (k, tx, rx, wx)) (i0 + 1) = true) := by unfold Hid; rw [HST.out, decide_eq_true (by rw [e1, e2, e3])]; rfl
                            clear HST
                            subst e1 e2 e3
                            go_upto_region 16 with (go_at_call 14; refine (One12_ref k ta rp wd _).mono ?_; rintro e wo ⟨rfl, hb⟩; rw [HON.out]; replace HB2 := hide (bel_next HB2.out hb); replace c0 := bcell hb c0; replace c1 := bcell hb c1; replace c2 := bcell hb c2; replace c3 := bcell hb c3; (try replace y0 := bcell hb y0); (try replace y1 := bcell hb y1); (try replace y2 := bcell hb y2); (try replace y3 := bcell hb y3); clear hb)
                            refine wp_region_held_drew (S := fun W => Below wo.heap.size wo W) (by kernel_rfl) ((Below.refl _ wo).drew) (fun hS0 => ?_)
                            refine takeInH 0 68 ?v1 rfl rfl (by kernel_rfl) (by kernel_rfl) (by kernel_rfl) (fun _ _ _ h => h) (by kernel_rfl) hS0 ?hy1 ?_
                            case hy1 => (intro W hW; clear hW; go_simp; try rfl)
                            simp only [Act.put, List.setIfInBounds_toArray, List.set_cons_zero, List.set_cons_succ]
                            refine takeInH 1 69 ?v2 rfl rfl (by kernel_rfl) (by kernel_rfl) (by kernel_rfl) (fun _ _ _ h => h) (by kernel_rfl) hS0 ?hy2 ?_
                            case hy2 => (intro W hW; clear hW; go_simp; try rfl)
                            simp only [Act.put, List.setIfInBounds_toArray, List.set_cons_zero, List.set_cons_succ]
                            refine takeInH 2 70 ?v3 rfl rfl (by kernel_rfl) (by kernel_rfl) (by kernel_rfl) (fun _ _ _ h => h) (by kernel_rfl) hS0 ?hy3 ?_
                            case hy3 => (intro W hW; clear hW; go_simp; try rfl)
                            simp only [Act.put, List.setIfInBounds_toArray, List.set_cons_zero, List.set_cons_succ]
                            refine takeInH 3 71 ?v4 rfl rfl (by kernel_rfl) (by kernel_rfl) (by kernel_rfl) (fun _ _ _ h => h) (by kernel_rfl) hS0 ?hy4 ?_
                            case hy4 => (intro W hW; clear hW; go_simp; try rfl)
                            simp only [Act.put, List.setIfInBounds_toArray, List.set_cons_zero, List.set_cons_succ]
                            refine takeInH 4 72 ?v5 rfl rfl (by kernel_rfl) (by kernel_rfl) (by kernel_rfl) (fun _ _ _ h => h) (by kernel_rfl) hS0 ?hy5 ?_
                            case hy5 => (intro W hW; clear hW; go_simp; try rfl)
                            simp only [Act.put, List.setIfInBounds_toArray, List.set_cons_zero, List.set_cons_succ]
                            refine takeInH 5 73 ?v6 rfl rfl (by kernel_rfl) (by kernel_rfl) (by kernel_rfl) (fun _ _ _ h => h) (by kernel_rfl) hS0 ?hy6 ?_
                            case hy6 => (intro W hW; have e0 := bcell hW c0; have e1 := bcell hW c1; have e2 := bcell hW c2; have e3 := bcell hW c3; have e4 := bcell hW y0; have e5 := bcell hW y1; have e6 := bcell hW y2; have e7 := bcell hW y3; clear hW; go_simp; try rfl)
                            simp only [Act.put, List.setIfInBounds_toArray, List.set_cons_zero, List.set_cons_succ]
                            refine takeInH 6 74 ?v7 rfl rfl (by kernel_rfl) (by kernel_rfl) (by kernel_rfl) (fun _ _ _ h => h) (by kernel_rfl) hS0 ?hy7 ?_
                            case hy7 => (intro W hW; have e0 := bcell hW c0; have e1 := bcell hW c1; have e2 := bcell hW c2; have e3 := bcell hW c3; have e4 := bcell hW y0; have e5 := bcell hW y1; have e6 := bcell hW y2; have e7 := bcell hW y3; clear hW; go_simp; try rfl)
                            simp only [Act.put, List.setIfInBounds_toArray, List.set_cons_zero, List.set_cons_succ]
                            refine takeInH 7 75 ?v8 rfl rfl (by kernel_rfl) (by kernel_rfl) (by kernel_rfl) (fun _ _ _ h => h) (by kernel_rfl) hS0 ?hy8 ?_
                            case hy8 => (intro W hW; clear hW; go_simp; try rfl)
                            simp only [Act.put, List.setIfInBounds_toArray, List.set_cons_zero, List.set_cons_succ]
                            refine takeInH 8 76 ?v9 rfl rfl (by kernel_rfl) (by kernel_rfl) (by kernel_rfl) (fun _ _ _ h => h) (by kernel_rfl) hS0 ?hy9 ?_
                            case hy9 => (intro W hW; clear hW; go_simp; try rfl)
                            simp only [Act.put, List.setIfInBounds_toArray, List.set_cons_zero, List.set_cons_succ]
                            refine takeInH 9 11 ?v10 rfl rfl (by kernel_rfl) (by kernel_rfl) (by kernel_rfl) (fun _ _ _ h => h) (by kernel_rfl) hS0 ?hy10 ?_
                            case hy10 => (intro W hW; clear hW; go_simp; try rfl)
                            simp only [Act.put, List.setIfInBounds_toArray, List.set_cons_zero, List.set_cons_succ]
                            refine wpAnyH_done (by kernel_rfl) ?_ _
                            replace HB2 := hide (bel_next HB2.out hS0)
                            replace c0 := bcell hS0 c0
                            replace y0 := bcell hS0 y0
                            replace c1 := bcell hS0 c1
                            replace y1 := bcell hS0 y1
                            replace c2 := bcell hS0 c2
                            replace y2 := bcell hS0 y2
                            replace c3 := bcell hS0 c3
                            replace y3 := bcell hS0 y3
                            clear hS0
                            generalize wo.drew = x1 at *
                            go_upto_region 17 with fail
                            refine wp_region_held_drew (S := fun W => Below x1.heap.size x1 W) (by kernel_rfl) ((Below.refl _ x1).drew) (fun hS0 => ?_)
                            refine takeInH 0 77 ?v11 rfl rfl (by kernel_rfl) (by kernel_rfl) (by kernel_rfl) (fun _ _ _ h => h) (by kernel_rfl) hS0 ?hy11 ?_
                            case hy11 => (intro W hW; clear hW; go_simp; try rfl)
                            simp only [Act.put, List.setIfInBounds_toArray, List.set_cons_zero, List.set_cons_succ]
                            refine takeInH 1 78 ?v12 rfl rfl (by kernel_rfl) (by kernel_rfl) (by kernel_rfl) (fun _ _ _ h => h) (by kernel_rfl) hS0 ?hy12 ?_
                            case hy12 => (intro W hW; clear hW; go_simp; try rfl)
                            simp only [Act.put, List.setIfInBounds_toArray, List.set_cons_zero, List.set_cons_succ]
                            refine takeInH 2 79 ?v13 rfl rfl (by kernel_rfl) (by kernel_rfl) (by kernel_rfl) (fun _ _ _ h => h) (by kernel_rfl) hS0 ?hy13 ?_
                            case hy13 => (intro W hW; clear hW; go_simp; try rfl)
                            simp only [Act.put, List.setIfInBounds_toArray, List.set_cons_zero, List.set_cons_succ]
                            refine takeInH 3 80 ?v14 rfl rfl (by kernel_rfl) (by kernel_rfl) (by kernel_rfl) (fun _ _ _ h => h) (by kernel_rfl) hS0 ?hy14 ?_
                            case hy14 => (intro W hW; clear hW; go_simp; try rfl)
                            simp only [Act.put, List.setIfInBounds_toArray, List.set_cons_zero, List.set_cons_succ]
                            refine takeInH 4 81 ?v15 rfl rfl (by kernel_rfl) (by kernel_rfl) (by kernel_rfl) (fun _ _ _ h => h) (by kernel_rfl) hS0 ?hy15 ?_
                            case hy15 => (intro W hW; clear hW; go_simp; try rfl)
                            simp only [Act.put, List.setIfInBounds_toArray, List.set_cons_zero, List.set_cons_succ]
                            refine takeInH 5 82 ?v16 rfl rfl (by kernel_rfl) (by kernel_rfl) (by kernel_rfl) (fun _ _ _ h => h) (by kernel_rfl) hS0 ?hy16 ?_
                            case hy16 => (intro W hW; clear hW; go_simp; try rfl)
                            simp only [Act.put, List.setIfInBounds_toArray, List.set_cons_zero, List.set_cons_succ]
                            refine takeInH 6 83 ?v17 rfl rfl (by kernel_rfl) (by kernel_rfl) (by kernel_rfl) (fun _ _ _ h => h) (by kernel_rfl) hS0 ?hy17 ?_
                            case hy17 => (intro W hW; have e0 := bcell hW c0; have e1 := bcell hW c1; have e2 := bcell hW c2; have e3 := bcell hW c3; have e4 := bcell hW y0; have e5 := bcell hW y1; have e6 := bcell hW y2; have e7 := bcell hW y3; clear hW; go_simp; try rfl)
                            simp only [Act.put, List.setIfInBounds_toArray, List.set_cons_zero, List.set_cons_succ]
                            refine takeInH 7 84 ?v18 rfl rfl (by kernel_rfl) (by kernel_rfl) (by kernel_rfl) (fun _ _ _ h => h) (by kernel_rfl) hS0 ?hy18 ?_
                            case hy18 => (intro W hW; have e0 := bcell hW c0; have e1 := bcell hW c1; have e2 := bcell hW c2; have e3 := bcell hW c3; have e4 := bcell hW y0; have e5 := bcell hW y1; have e6 := bcell hW y2; have e7 := bcell hW y3; clear hW; go_simp; try rfl)
                            simp only [Act.put, List.setIfInBounds_toArray, List.set_cons_zero, List.set_cons_succ]
                            refine wpAnyH_ready (rs := [8]) (by kernel_rfl) (by simp) ?_
                            refine AllReadyH.cons rfl (fun K hK => ?_) AllReadyH.nil
                            go_simp
                            refine (Later12_any k k ta ta rp rp wd wd _).mono ?_
                            rintro e wl ⟨rfl, hb⟩
                            rw [show laterN (k, ta, rp, wd) (k, ta, rp, wd) = false from HLT.out]
                            refine hK.out _ _ ?hs19 (fun hS1 => ?_)
                            case hs19 => exact bel_next hS0 hb
                            clear hK K hb
                            try simp only [Act.put, List.setIfInBounds_toArray, List.set_cons_zero, List.set_cons_succ]
                            refine takeInH 9 86 ?v20 rfl rfl (by kernel_rfl) (by kernel_rfl) (by kernel_rfl) (fun _ _ _ h => h) (by kernel_rfl) hS1 ?hy20 ?_
                            case hy20 => (intro W hW; clear hW; go_simp; try rfl)
                            simp only [Act.put, List.setIfInBounds_toArray, List.set_cons_zero, List.set_cons_succ]
                            refine wpAnyH_done (by kernel_rfl) ?_ _
                            go_wp2
                            go_roundw
                            case rel => exact ⟨i0 + 1, true, by omega, by go_num, rfl, HSM2, (show Hid _ from bel_next HB2.out hS1)⟩
                            case measure => simp [intOf]; omega
                          · rw [decide_eq_false e3] at hp
                            have HSM2 : Hid (smN s k (some (k, tx, rx, wx)) (i0 + 1) = false) := by unfold Hid; rw [HST.out, decide_eq_false (fun q => e3 (by cases q; rfl))]; rfl
                            clear HST
                            subst e1 e2
                            go_upto_region 16 with (go_at_call 14; refine (One12_ref k ta rp wd _).mono ?_; rintro e wo ⟨rfl, hb⟩; rw [HON.out]; replace HB2 := hide (bel_next HB2.out hb); replace c0 := bcell hb c0; replace c1 := bcell hb c1; replace c2 := bcell hb c2; replace c3 := bcell hb c3; (try replace y0 := bcell hb y0); (try replace y1 := bcell hb y1); (try replace y2 := bcell hb y2); (try replace y3 := bcell hb y3); clear hb)
                            refine wp_region_held_drew (S := fun W => Below wo.heap.size wo W) (by kernel_rfl) ((Below.refl _ wo).drew) (fun hS0 => ?_)
                            refine takeInH 0 68 ?v21 rfl rfl (by kernel_rfl) (by kernel_rfl) (by kernel_rfl) (fun _ _ _ h => h) (by kernel_rfl) hS0 ?hy21 ?_
                            case hy21 => (intro W hW; clear hW; go_simp; try rfl)
                            simp only [Act.put, List.setIfInBounds_toArray, List.set_cons_zero, List.set_cons_succ]
                            refine takeInH 1 69 ?v22 rfl rfl (by kernel_rfl) (by kernel_rfl) (by kernel_rfl) (fun _ _ _ h => h) (by kernel_rfl) hS0 ?hy22 ?_
                            case hy22 => (intro W hW; clear hW; go_simp; try rfl)
                            simp only [Act.put, List.setIfInBounds_toArray, List.set_cons_zero, List.set_cons_succ]
                            refine takeInH 2 70 ?v23 rfl rfl (by kernel_rfl) (by kernel_rfl) (by kernel_rfl) (fun _ _ _ h => h) (by kernel_rfl) hS0 ?hy23 ?_
                            case hy23 => (intro W hW; clear hW; go_simp; try rfl)
                            simp only [Act.put, List.setIfInBounds_toArray, List.set_cons_zero, List.set_cons_succ]
                            refine takeInH 3 71 ?v24 rfl rfl (by kernel_rfl) (by kernel_rfl) (by kernel_rfl) (fun _ _ _ h => h) (by kernel_rfl) hS0 ?hy24 ?_
                            case hy24 => (intro W hW; clear hW; go_simp; try rfl)
                            simp only [Act.put, List.setIfInBounds_toArray, List.set_cons_zero, List.set_cons_succ]
                            refine takeInH 4 72 ?v25 rfl rfl (by kernel_rfl) (by kernel_rfl) (by kernel_rfl) (fun _ _ _ h => h) (by kernel_rfl) hS0 ?hy25 ?_
                            case hy25 => (intro W hW; clear hW; go_simp; try rfl)
                            simp only [Act.put, List.setIfInBounds_toArray, List.set_cons_zero, List.set_cons_succ]
                            refine takeInH 5 73 ?v26 rfl rfl (by kernel_rfl) (by kernel_rfl) (by kernel_rfl) (fun _ _ _ h => h) (by kernel_rfl) hS0 ?hy26 ?_
                            case hy26 => (intro W hW; have e0 := bcell hW c0; have e1 := bcell hW c1; have e2 := bcell hW c2; have e3 := bcell hW c3; have e4 := bcell hW y0; have e5 := bcell hW y1; have e6 := bcell hW y2; have e7 := bcell hW y3; clear hW; go_simp; try rfl)
                            simp only [Act.put, List.setIfInBounds_toArray, List.set_cons_zero, List.set_cons_succ]
                            refine takeInH 6 74 ?v27 rfl rfl (by kernel_rfl) (by kernel_rfl) (by kernel_rfl) (fun _ _ _ h => h) (by kernel_rfl) hS0 ?hy27 ?_
                            case hy27 => (intro W hW; have e0 := bcell hW c0; have e1 := bcell hW c1; have e2 := bcell hW c2; have e3 := bcell hW c3; have e4 := bcell hW y0; have e5 := bcell hW y1; have e6 := bcell hW y2; have e7 := bcell hW y3; clear hW; go_simp; try rfl)
                            simp only [Act.put, List.setIfInBounds_toArray, List.set_cons_zero, List.set_cons_succ]
                            refine takeInH 7 75 ?v28 rfl rfl (by kernel_rfl) (by kernel_rfl) (by kernel_rfl) (fun _ _ _ h => h) (by kernel_rfl) hS0 ?hy28 ?_
                            case hy28 => (intro W hW; clear hW; go_simp; try rfl)
                            simp only [Act.put, List.setIfInBounds_toArray, List.set_cons_zero, List.set_cons_succ]
                            refine takeInH 8 76 ?v29 rfl rfl (by kernel_rfl) (by kernel_rfl) (by kernel_rfl) (fun _ _ _ h => h) (by kernel_rfl) hS0 ?hy29 ?_
                            case hy29 => (intro W hW; clear hW; go_simp; try rfl)
                            simp only [Act.put, List.setIfInBounds_toArray, List.set_cons_zero, List.set_cons_succ]
                            refine takeInH 9 11 ?v30 rfl rfl (by kernel_rfl) (by kernel_rfl) (by kernel_rfl) (fun _ _ _ h => h) (by kernel_rfl) hS0 ?hy30 ?_
                            case hy30 => (intro W hW; clear hW; go_simp; try rfl)
                            simp only [Act.put, List.setIfInBounds_toArray, List.set_cons_zero, List.set_cons_succ]
                            refine wpAnyH_done (by kernel_rfl) ?_ _
                            replace HB2 := hide (bel_next HB2.out hS0)
                            replace c0 := bcell hS0 c0
                            replace y0 := bcell hS0 y0
                            replace c1 := bcell hS0 c1
                            replace y1 := bcell hS0 y1
                            replace c2 := bcell hS0 c2
                            replace y2 := bcell hS0 y2
                            replace c3 := bcell hS0 c3
                            replace y3 := bcell hS0 y3
                            clear hS0
                            generalize wo.drew = x1 at *
                            go_upto_region 17 with fail
                            refine wp_region_held_drew (S := fun W => Below x1.heap.size x1 W) (by kernel_rfl) ((Below.refl _ x1).drew) (fun hS0 => ?_)
                            refine takeInH 0 77 ?v31 rfl rfl (by kernel_rfl) (by kernel_rfl) (by kernel_rfl) (fun _ _ _ h => h) (by kernel_rfl) hS0 ?hy31 ?_
                            case hy31 => (intro W hW; clear hW; go_simp; try rfl)
                            simp only [Act.put, List.setIfInBounds_toArray, List.set_cons_zero, List.set_cons_succ]
                            refine takeInH 1 78 ?v32 rfl rfl (by kernel_rfl) (by kernel_rfl) (by kernel_rfl) (fun _ _ _ h => h) (by kernel_rfl) hS0 ?hy32 ?_
                            case hy32 => (intro W hW; clear hW; go_simp; try rfl)
                            simp only [Act.put, List.setIfInBounds_toArray, List.set_cons_zero, List.set_cons_succ]
                            refine takeInH 2 79 ?v33 rfl rfl (by kernel_rfl) (by kernel_rfl) (by kernel_rfl) (fun _ _ _ h => h) (by kernel_rfl) hS0 ?hy33 ?_
                            case hy33 => (intro W hW; clear hW; go_simp; try rfl)
                            simp only [Act.put, List.setIfInBounds_toArray, List.set_cons_zero, List.set_cons_succ]
                            refine takeInH 3 80 ?v34 rfl rfl (by kernel_rfl) (by kernel_rfl) (by kernel_rfl) (fun _ _ _ h => h) (by kernel_rfl) hS0 ?hy34 ?_
                            case hy34 => (intro W hW; clear hW; go_simp; try rfl)
                            simp only [Act.put, List.setIfInBounds_toArray, List.set_cons_zero, List.set_cons_succ]
                            refine takeInH 4 81 ?v35 rfl rfl (by kernel_rfl) (by kernel_rfl) (by kernel_rfl) (fun _ _ _ h => h) (by kernel_rfl) hS0 ?hy35 ?_
                            case hy35 => (intro W hW; clear hW; go_simp; try rfl)
                            simp only [Act.put, List.setIfInBounds_toArray, List.set_cons_zero, List.set_cons_succ]
                            refine takeInH 5 82 ?v36 rfl rfl (by kernel_rfl) (by kernel_rfl) (by kernel_rfl) (fun _ _ _ h => h) (by kernel_rfl) hS0 ?hy36 ?_
                            case hy36 => (intro W hW; clear hW; go_simp; try rfl)
                            simp only [Act.put, List.setIfInBounds_toArray, List.set_cons_zero, List.set_cons_succ]
                            refine takeInH 6 83 ?v37 rfl rfl (by kernel_rfl) (by kernel_rfl) (by kernel_rfl) (fun _ _ _ h => h) (by kernel_rfl) hS0 ?hy37 ?_
                            case hy37 => (intro W hW; have e0 := bcell hW c0; have e1 := bcell hW c1; have e2 := bcell hW c2; have e3 := bcell hW c3; have e4 := bcell hW y0; have e5 := bcell hW y1; have e6 := bcell hW y2; have e7 := bcell hW y3; clear hW; go_simp; try rfl)
                            simp only [Act.put, List.setIfInBounds_toArray, List.set_cons_zero, List.set_cons_succ]
                            refine takeInH 7 84 ?v38 rfl rfl (by kernel_rfl) (by kernel_rfl) (by kernel_rfl) (fun _ _ _ h => h) (by kernel_rfl) hS0 ?hy38 ?_
                            case hy38 => (intro W hW; have e0 := bcell hW c0; have e1 := bcell hW c1; have e2 := bcell hW c2; have e3 := bcell hW c3; have e4 := bcell hW y0; have e5 := bcell hW y1; have e6 := bcell hW y2; have e7 := bcell hW y3; clear hW; go_simp; try rfl)
                            simp only [Act.put, List.setIfInBounds_toArray, List.set_cons_zero, List.set_cons_succ]
                            refine wpAnyH_ready (rs := [8]) (by kernel_rfl) (by simp) ?_
                            refine AllReadyH.cons rfl (fun K hK => ?_) AllReadyH.nil
                            go_simp
                            refine (Later12_any k k ta ta rp rp wd wx _).mono ?_
                            rintro e wl ⟨rfl, hb⟩
                            rw [show laterN (k, ta, rp, wd) (k, ta, rp, wx) = false from HLT.out]
                            refine hK.out _ _ ?hs39 (fun hS1 => ?_)
                            case hs39 => exact bel_next hS0 hb
                            clear hK K hb
                            try simp only [Act.put, List.setIfInBounds_toArray, List.set_cons_zero, List.set_cons_succ]
                            refine takeInH 9 86 ?v40 rfl rfl (by kernel_rfl) (by kernel_rfl) (by kernel_rfl) (fun _ _ _ h => h) (by kernel_rfl) hS1 ?hy40 ?_
                            case hy40 => (intro W hW; clear hW; go_simp; try rfl)
                            simp only [Act.put, List.setIfInBounds_toArray, List.set_cons_zero, List.set_cons_succ]
                            refine wpAnyH_done (by kernel_rfl) ?_ _
                            go_wp2
                            go_roundw
                            case rel => exact ⟨i0 + 1, false, by omega, by go_num, rfl, HSM2, (show Hid _ from bel_next HB2.out hS1)⟩
                            case measure => simp [intOf]; omega
                        · have e4 : (rp == rx) = false := by rw [beq_eq_false_iff_ne]; exact e2
                          have HSM2 : Hid (smN s k (some (k, tx, rx, wx)) (i0 + 1) = false) := by unfold Hid; rw [HST.out, decide_eq_false (fun q => e2 (by cases q; rfl))]; rfl
                          clear HST
                          subst e1
                          go_upto_region 16 with (go_at_call 14; refine (One12_ref k ta rp wd _).mono ?_; rintro e wo ⟨rfl, hb⟩; rw [HON.out]; replace HB2 := hide (bel_next HB2.out hb); replace c0 := bcell hb c0; replace c1 := bcell hb c1; replace c2 := bcell hb c2; replace c3 := bcell hb c3; (try replace y0 := bcell hb y0); (try replace y1 := bcell hb y1); (try replace y2 := bcell hb y2); (try replace y3 := bcell hb y3); clear hb)
                          refine wp_region_held_drew (S := fun W => Below wo.heap.size wo W) (by kernel_rfl) ((Below.refl _ wo).drew) (fun hS0 => ?_)
                          refine takeInH 0 68 ?v41 rfl rfl (by kernel_rfl) (by kernel_rfl) (by kernel_rfl) (fun _ _ _ h => h) (by kernel_rfl) hS0 ?hy41 ?_
                          case hy41 => (intro W hW; clear hW; go_simp; try rfl)
                          simp only [Act.put, List.setIfInBounds_toArray, List.set_cons_zero, List.set_cons_succ]
                          refine takeInH 1 69 ?v42 rfl rfl (by kernel_rfl) (by kernel_rfl) (by kernel_rfl) (fun _ _ _ h => h) (by kernel_rfl) hS0 ?hy42 ?_
                          case hy42 => (intro W hW; clear hW; go_simp; try rfl)
                          simp only [Act.put, List.setIfInBounds_toArray, List.set_cons_zero, List.set_cons_succ]
                          refine takeInH 2 70 ?v43 rfl rfl (by kernel_rfl) (by kernel_rfl) (by kernel_rfl) (fun _ _ _ h => h) (by kernel_rfl) hS0 ?hy43 ?_
                          case hy43 => (intro W hW; clear hW; go_simp; try rfl)
                          simp only [Act.put, List.setIfInBounds_toArray, List.set_cons_zero, List.set_cons_succ]
                          refine takeInH 3 71 ?v44 rfl rfl (by kernel_rfl) (by kernel_rfl) (by kernel_rfl) (fun _ _ _ h => h) (by kernel_rfl) hS0 ?hy44 ?_
                          case hy44 => (intro W hW; clear hW; go_simp; try rfl)
                          simp only [Act.put, List.setIfInBounds_toArray, List.set_cons_zero, List.set_cons_succ]
                          refine takeInH 4 72 ?v45 rfl rfl (by kernel_rfl) (by kernel_rfl) (by kernel_rfl) (fun _ _ _ h => h) (by kernel_rfl) hS0 ?hy45 ?_
                          case hy45 => (intro W hW; clear hW; go_simp; try rfl)
                          simp only [Act.put, List.setIfInBounds_toArray, List.set_cons_zero, List.set_cons_succ]
                          refine takeInH 5 73 ?v46 rfl rfl (by kernel_rfl) (by kernel_rfl) (by kernel_rfl) (fun _ _ _ h => h) (by kernel_rfl) hS0 ?hy46 ?_
                          case hy46 => (intro W hW; have e0 := bcell hW c0; have e1 := bcell hW c1; have e2 := bcell hW c2; have e3 := bcell hW c3; have e4 := bcell hW y0; have e5 := bcell hW y1; have e6 := bcell hW y2; have e7 := bcell hW y3; clear hW; go_simp; try rfl)
                          simp only [Act.put, List.setIfInBounds_toArray, List.set_cons_zero, List.set_cons_succ]
                          refine takeInH 6 74 ?v47 rfl rfl (by kernel_rfl) (by kernel_rfl) (by kernel_rfl) (fun _ _ _ h => h) (by kernel_rfl) hS0 ?hy47 ?_
                          case hy47 => (intro W hW; have e0 := bcell hW c0; have e1 := bcell hW c1; have e2 := bcell hW c2; have e3 := bcell hW c3; have e4 := bcell hW y0; have e5 := bcell hW y1; have e6 := bcell hW y2; have e7 := bcell hW y3; clear hW; go_simp; try rfl)
                          simp only [Act.put, List.setIfInBounds_toArray, List.set_cons_zero, List.set_cons_succ]
                          refine takeInH 7 75 ?v48 rfl rfl (by kernel_rfl) (by kernel_rfl) (by kernel_rfl) (fun _ _ _ h => h) (by kernel_rfl) hS0 ?hy48 ?_
                          case hy48 => (intro W hW; clear hW; go_simp; try rfl)
                          simp only [Act.put, List.setIfInBounds_toArray, List.set_cons_zero, List.set_cons_succ]
                          refine takeInH 8 76 ?v49 rfl rfl (by kernel_rfl) (by kernel_rfl) (by kernel_rfl) (fun _ _ _ h => h) (by kernel_rfl) hS0 ?hy49 ?_
                          case hy49 => (intro W hW; clear hW; go_simp; try rfl)
                          simp only [Act.put, List.setIfInBounds_toArray, List.set_cons_zero, List.set_cons_succ]
                          refine takeInH 9 11 ?v50 rfl rfl (by kernel_rfl) (by kernel_rfl) (by kernel_rfl) (fun _ _ _ h => h) (by kernel_rfl) hS0 ?hy50 ?_
                          case hy50 => (intro W hW; clear hW; go_simp; try rfl)
                          simp only [Act.put, List.setIfInBounds_toArray, List.set_cons_zero, List.set_cons_succ]
                          refine wpAnyH_done (by kernel_rfl) ?_ _
                          replace HB2 := hide (bel_next HB2.out hS0)
                          replace c0 := bcell hS0 c0
                          replace y0 := bcell hS0 y0
                          replace c1 := bcell hS0 c1
                          replace y1 := bcell hS0 y1
                          replace c2 := bcell hS0 c2
                          replace y2 := bcell hS0 y2
                          replace c3 := bcell hS0 c3
                          replace y3 := bcell hS0 y3
                          clear hS0
                          generalize wo.drew = x1 at *
                          go_upto_region 17 with fail
                          refine wp_region_held_drew (S := fun W => Below x1.heap.size x1 W) (by kernel_rfl) ((Below.refl _ x1).drew) (fun hS0 => ?_)
                          refine takeInH 0 77 ?v51 rfl rfl (by kernel_rfl) (by kernel_rfl) (by kernel_rfl) (fun _ _ _ h => h) (by kernel_rfl) hS0 ?hy51 ?_
                          case hy51 => (intro W hW; clear hW; go_simp; try rfl)
                          simp only [Act.put, List.setIfInBounds_toArray, List.set_cons_zero, List.set_cons_succ]
                          refine takeInH 1 78 ?v52 rfl rfl (by kernel_rfl) (by kernel_rfl) (by kernel_rfl) (fun _ _ _ h => h) (by kernel_rfl) hS0 ?hy52 ?_
                          case hy52 => (intro W hW; clear hW; go_simp; try rfl)
                          simp only [Act.put, List.setIfInBounds_toArray, List.set_cons_zero, List.set_cons_succ]
                          refine takeInH 2 79 ?v53 rfl rfl (by kernel_rfl) (by kernel_rfl) (by kernel_rfl) (fun _ _ _ h => h) (by kernel_rfl) hS0 ?hy53 ?_
                          case hy53 => (intro W hW; clear hW; go_simp; try rfl)
                          simp only [Act.put, List.setIfInBounds_toArray, List.set_cons_zero, List.set_cons_succ]
                          refine takeInH 3 80 ?v54 rfl rfl (by kernel_rfl) (by kernel_rfl) (by kernel_rfl) (fun _ _ _ h => h) (by kernel_rfl) hS0 ?hy54 ?_
                          case hy54 => (intro W hW; clear hW; go_simp; try rfl)
                          simp only [Act.put, List.setIfInBounds_toArray, List.set_cons_zero, List.set_cons_succ]
                          refine takeInH 4 81 ?v55 rfl rfl (by kernel_rfl) (by kernel_rfl) (by kernel_rfl) (fun _ _ _ h => h) (by kernel_rfl) hS0 ?hy55 ?_
                          case hy55 => (intro W hW; clear hW; go_simp; try rfl)
                          simp only [Act.put, List.setIfInBounds_toArray, List.set_cons_zero, List.set_cons_succ]
                          refine takeInH 5 82 ?v56 rfl rfl (by kernel_rfl) (by kernel_rfl) (by kernel_rfl) (fun _ _ _ h => h) (by kernel_rfl) hS0 ?hy56 ?_
                          case hy56 => (intro W hW; clear hW; go_simp; try rfl)
                          simp only [Act.put, List.setIfInBounds_toArray, List.set_cons_zero, List.set_cons_succ]
                          refine takeInH 6 83 ?v57 rfl rfl (by kernel_rfl) (by kernel_rfl) (by kernel_rfl) (fun _ _ _ h => h) (by kernel_rfl) hS0 ?hy57 ?_
                          case hy57 => (intro W hW; have e0 := bcell hW c0; have e1 := bcell hW c1; have e2 := bcell hW c2; have e3 := bcell hW c3; have e4 := bcell hW y0; have e5 := bcell hW y1; have e6 := bcell hW y2; have e7 := bcell hW y3; clear hW; go_simp; try rfl)
                          simp only [Act.put, List.setIfInBounds_toArray, List.set_cons_zero, List.set_cons_succ]
                          refine takeInH 7 84 ?v58 rfl rfl (by kernel_rfl) (by kernel_rfl) (by kernel_rfl) (fun _ _ _ h => h) (by kernel_rfl) hS0 ?hy58 ?_
                          case hy58 => (intro W hW; have e0 := bcell hW c0; have e1 := bcell hW c1; have e2 := bcell hW c2; have e3 := bcell hW c3; have e4 := bcell hW y0; have e5 := bcell hW y1; have e6 := bcell hW y2; have e7 := bcell hW y3; clear hW; go_simp; try rfl)
                          simp only [Act.put, List.setIfInBounds_toArray, List.set_cons_zero, List.set_cons_succ]
                          refine wpAnyH_ready (rs := [8]) (by kernel_rfl) (by simp) ?_
                          refine AllReadyH.cons rfl (fun K hK => ?_) AllReadyH.nil
                          go_simp
                          refine (Later12_any k k ta ta rp rx wd wx _).mono ?_
                          rintro e wl ⟨rfl, hb⟩
                          rw [show laterN (k, ta, rp, wd) (k, ta, rx, wx) = false from HLT.out]
                          refine hK.out _ _ ?hs59 (fun hS1 => ?_)
                          case hs59 => exact bel_next hS0 hb
                          clear hK K hb
                          try simp only [Act.put, List.setIfInBounds_toArray, List.set_cons_zero, List.set_cons_succ]
                          refine takeInH 9 86 ?v60 rfl rfl (by kernel_rfl) (by kernel_rfl) (by kernel_rfl) (fun _ _ _ h => h) (by kernel_rfl) hS1 ?hy60 ?_
                          case hy60 => (intro W hW; clear hW; go_simp; try rfl)
                          simp only [Act.put, List.setIfInBounds_toArray, List.set_cons_zero, List.set_cons_succ]
                          refine wpAnyH_done (by kernel_rfl) ?_ _
                          go_wp2
                          go_roundw
                          case rel => exact ⟨i0 + 1, false, by omega, by go_num, rfl, HSM2, (show Hid _ from bel_next HB2.out hS1)⟩
                          case measure => simp [intOf]; omega
                      · have e4 : (ta == tx) = false := by rw [beq_eq_false_iff_ne]; exact e1
                        have HSM2 : Hid (smN s k (some (k, tx, rx, wx)) (i0 + 1) = false) := by unfold Hid; rw [HST.out, decide_eq_false (fun q => e1 (by cases q; rfl))]; rfl
                        clear HST
                        go_upto_region 16 with (go_at_call 14; refine (One12_ref k ta rp wd _).mono ?_; rintro e wo ⟨rfl, hb⟩; rw [HON.out]; replace HB2 := hide (bel_next HB2.out hb); replace c0 := bcell hb c0; replace c1 := bcell hb c1; replace c2 := bcell hb c2; replace c3 := bcell hb c3; (try replace y0 := bcell hb y0); (try replace y1 := bcell hb y1); (try replace y2 := bcell hb y2); (try replace y3 := bcell hb y3); clear hb)
                        refine wp_region_held_drew (S := fun W => Below wo.heap.size wo W) (by kernel_rfl) ((Below.refl _ wo).drew) (fun hS0 => ?_)
                        refine takeInH 0 68 ?v61 rfl rfl (by kernel_rfl) (by kernel_rfl) (by kernel_rfl) (fun _ _ _ h => h) (by kernel_rfl) hS0 ?hy61 ?_
                        case hy61 => (intro W hW; clear hW; go_simp; try rfl)
                        simp only [Act.put, List.setIfInBounds_toArray, List.set_cons_zero, List.set_cons_succ]
                        refine takeInH 1 69 ?v62 rfl rfl (by kernel_rfl) (by kernel_rfl) (by kernel_rfl) (fun _ _ _ h => h) (by kernel_rfl) hS0 ?hy62 ?_
                        case hy62 => (intro W hW; clear hW; go_simp; try rfl)
                        simp only [Act.put, List.setIfInBounds_toArray, List.set_cons_zero, List.set_cons_succ]
                        refine takeInH 2 70 ?v63 rfl rfl (by kernel_rfl) (by kernel_rfl) (by kernel_rfl) (fun _ _ _ h => h) (by kernel_rfl) hS0 ?hy63 ?_
                        case hy63 => (intro W hW; clear hW; go_simp; try rfl)
                        simp only [Act.put, List.setIfInBounds_toArray, List.set_cons_zero, List.set_cons_succ]
                        refine takeInH 3 71 ?v64 rfl rfl (by kernel_rfl) (by kernel_rfl) (by kernel_rfl) (fun _ _ _ h => h) (by kernel_rfl) hS0 ?hy64 ?_
                        case hy64 => (intro W hW; clear hW; go_simp; try rfl)
                        simp only [Act.put, List.setIfInBounds_toArray, List.set_cons_zero, List.set_cons_succ]
                        refine takeInH 4 72 ?v65 rfl rfl (by kernel_rfl) (by kernel_rfl) (by kernel_rfl) (fun _ _ _ h => h) (by kernel_rfl) hS0 ?hy65 ?_
                        case hy65 => (intro W hW; clear hW; go_simp; try rfl)
                        simp only [Act.put, List.setIfInBounds_toArray, List.set_cons_zero, List.set_cons_succ]
                        refine takeInH 5 73 ?v66 rfl rfl (by kernel_rfl) (by kernel_rfl) (by kernel_rfl) (fun _ _ _ h => h) (by kernel_rfl) hS0 ?hy66 ?_
                        case hy66 => (intro W hW; have e0 := bcell hW c0; have e1 := bcell hW c1; have e2 := bcell hW c2; have e3 := bcell hW c3; have e4 := bcell hW y0; have e5 := bcell hW y1; have e6 := bcell hW y2; have e7 := bcell hW y3; clear hW; go_simp; try rfl)
                        simp only [Act.put, List.setIfInBounds_toArray, List.set_cons_zero, List.set_cons_succ]
                        refine takeInH 6 74 ?v67 rfl rfl (by kernel_rfl) (by kernel_rfl) (by kernel_rfl) (fun _ _ _ h => h) (by kernel_rfl) hS0 ?hy67 ?_
                        case hy67 => (intro W hW; have e0 := bcell hW c0; have e1 := bcell hW c1; have e2 := bcell hW c2; have e3 := bcell hW c3; have e4 := bcell hW y0; have e5 := bcell hW y1; have e6 := bcell hW y2; have e7 := bcell hW y3; clear hW; go_simp; try rfl)
                        simp only [Act.put, List.setIfInBounds_toArray, List.set_cons_zero, List.set_cons_succ]
                        refine takeInH 7 75 ?v68 rfl rfl (by kernel_rfl) (by kernel_rfl) (by kernel_rfl) (fun _ _ _ h => h) (by kernel_rfl) hS0 ?hy68 ?_
                        case hy68 => (intro W hW; clear hW; go_simp; try rfl)
                        simp only [Act.put, List.setIfInBounds_toArray, List.set_cons_zero, List.set_cons_succ]
                        refine takeInH 8 76 ?v69 rfl rfl (by kernel_rfl) (by kernel_rfl) (by kernel_rfl) (fun _ _ _ h => h) (by kernel_rfl) hS0 ?hy69 ?_
                        case hy69 => (intro W hW; clear hW; go_simp; try rfl)
                        simp only [Act.put, List.setIfInBounds_toArray, List.set_cons_zero, List.set_cons_succ]
                        refine takeInH 9 11 ?v70 rfl rfl (by kernel_rfl) (by kernel_rfl) (by kernel_rfl) (fun _ _ _ h => h) (by kernel_rfl) hS0 ?hy70 ?_
                        case hy70 => (intro W hW; clear hW; go_simp; try rfl)
                        simp only [Act.put, List.setIfInBounds_toArray, List.set_cons_zero, List.set_cons_succ]
                        refine wpAnyH_done (by kernel_rfl) ?_ _
                        replace HB2 := hide (bel_next HB2.out hS0)
                        replace c0 := bcell hS0 c0
                        replace y0 := bcell hS0 y0
                        replace c1 := bcell hS0 c1
                        replace y1 := bcell hS0 y1
                        replace c2 := bcell hS0 c2
                        replace y2 := bcell hS0 y2
                        replace c3 := bcell hS0 c3
                        replace y3 := bcell hS0 y3
                        clear hS0
                        generalize wo.drew = x1 at *
                        go_upto_region 17 with fail
                        refine wp_region_held_drew (S := fun W => Below x1.heap.size x1 W) (by kernel_rfl) ((Below.refl _ x1).drew) (fun hS0 => ?_)
                        refine takeInH 0 77 ?v71 rfl rfl (by kernel_rfl) (by kernel_rfl) (by kernel_rfl) (fun _ _ _ h => h) (by kernel_rfl) hS0 ?hy71 ?_
                        case hy71 => (intro W hW; clear hW; go_simp; try rfl)
                        simp only [Act.put, List.setIfInBounds_toArray, List.set_cons_zero, List.set_cons_succ]
                        refine takeInH 1 78 ?v72 rfl rfl (by kernel_rfl) (by kernel_rfl) (by kernel_rfl) (fun _ _ _ h => h) (by kernel_rfl) hS0 ?hy72 ?_
                        case hy72 => (intro W hW; clear hW; go_simp; try rfl)
                        simp only [Act.put, List.setIfInBounds_toArray, List.set_cons_zero, List.set_cons_succ]
                        refine takeInH 2 79 ?v73 rfl rfl (by kernel_rfl) (by kernel_rfl) (by kernel_rfl) (fun _ _ _ h => h) (by kernel_rfl) hS0 ?hy73 ?_
                        case hy73 => (intro W hW; clear hW; go_simp; try rfl)
                        simp only [Act.put, List.setIfInBounds_toArray, List.set_cons_zero, List.set_cons_succ]
                        refine takeInH 3 80 ?v74 rfl rfl (by kernel_rfl) (by kernel_rfl) (by kernel_rfl) (fun _ _ _ h => h) (by kernel_rfl) hS0 ?hy74 ?_
                        case hy74 => (intro W hW; clear hW; go_simp; try rfl)
                        simp only [Act.put, List.setIfInBounds_toArray, List.set_cons_zero, List.set_cons_succ]
                        refine takeInH 4 81 ?v75 rfl rfl (by kernel_rfl) (by kernel_rfl) (by kernel_rfl) (fun _ _ _ h => h) (by kernel_rfl) hS0 ?hy75 ?_
                        case hy75 => (intro W hW; clear hW; go_simp; try rfl)
                        simp only [Act.put, List.setIfInBounds_toArray, List.set_cons_zero, List.set_cons_succ]
                        refine takeInH 5 82 ?v76 rfl rfl (by kernel_rfl) (by kernel_rfl) (by kernel_rfl) (fun _ _ _ h => h) (by kernel_rfl) hS0 ?hy76 ?_
                        case hy76 => (intro W hW; clear hW; go_simp; try rfl)
                        simp only [Act.put, List.setIfInBounds_toArray, List.set_cons_zero, List.set_cons_succ]
                        refine takeInH 6 83 ?v77 rfl rfl (by kernel_rfl) (by kernel_rfl) (by kernel_rfl) (fun _ _ _ h => h) (by kernel_rfl) hS0 ?hy77 ?_
                        case hy77 => (intro W hW; have e0 := bcell hW c0; have e1 := bcell hW c1; have e2 := bcell hW c2; have e3 := bcell hW c3; have e4 := bcell hW y0; have e5 := bcell hW y1; have e6 := bcell hW y2; have e7 := bcell hW y3; clear hW; go_simp; try rfl)
                        simp only [Act.put, List.setIfInBounds_toArray, List.set_cons_zero, List.set_cons_succ]
                        refine takeInH 7 84 ?v78 rfl rfl (by kernel_rfl) (by kernel_rfl) (by kernel_rfl) (fun _ _ _ h => h) (by kernel_rfl) hS0 ?hy78 ?_
                        case hy78 => (intro W hW; have e0 := bcell hW c0; have e1 := bcell hW c1; have e2 := bcell hW c2; have e3 := bcell hW c3; have e4 := bcell hW y0; have e5 := bcell hW y1; have e6 := bcell hW y2; have e7 := bcell hW y3; clear hW; go_simp; try rfl)
                        simp only [Act.put, List.setIfInBounds_toArray, List.set_cons_zero, List.set_cons_succ]
                        refine wpAnyH_ready (rs := [8]) (by kernel_rfl) (by simp) ?_
                        refine AllReadyH.cons rfl (fun K hK => ?_) AllReadyH.nil
                        go_simp
                        refine (Later12_any k k ta tx rp rx wd wx _).mono ?_
                        rintro e wl ⟨rfl, hb⟩
                        rw [show laterN (k, ta, rp, wd) (k, tx, rx, wx) = false from HLT.out]
                        refine hK.out _ _ ?hs79 (fun hS1 => ?_)
                        case hs79 => exact bel_next hS0 hb
                        clear hK K hb
                        try simp only [Act.put, List.setIfInBounds_toArray, List.set_cons_zero, List.set_cons_succ]
                        refine takeInH 9 86 ?v80 rfl rfl (by kernel_rfl) (by kernel_rfl) (by kernel_rfl) (fun _ _ _ h => h) (by kernel_rfl) hS1 ?hy80 ?_
                        case hy80 => (intro W hW; clear hW; go_simp; try rfl)
                        simp only [Act.put, List.setIfInBounds_toArray, List.set_cons_zero, List.set_cons_succ]
                        refine wpAnyH_done (by kernel_rfl) ?_ _
                        go_wp2
                        go_roundw
                        case rel => exact ⟨i0 + 1, false, by omega, by go_num, rfl, HSM2, (show Hid _ from bel_next HB2.out hS1)⟩
                        case measure => simp [intOf]; omega
                    · have HSM2 : Hid (smN s k (some (k, tx, rx, wx)) (i0 + 1) = true) := by unfold Hid; rw [HST.out]; rfl
                      clear HST
                      go_upto_region 16 with (go_at_call 14; refine (One12_ref k ta rp wd _).mono ?_; rintro e wo ⟨rfl, hb⟩; rw [HON.out]; replace HB2 := hide (bel_next HB2.out hb); replace c0 := bcell hb c0; replace c1 := bcell hb c1; replace c2 := bcell hb c2; replace c3 := bcell hb c3; (try replace y0 := bcell hb y0); (try replace y1 := bcell hb y1); (try replace y2 := bcell hb y2); (try replace y3 := bcell hb y3); clear hb)
                      refine wp_region_held_drew (S := fun W => Below wo.heap.size wo W) (by kernel_rfl) ((Below.refl _ wo).drew) (fun hS0 => ?_)
                      refine takeInH 0 68 ?v81 rfl rfl (by kernel_rfl) (by kernel_rfl) (by kernel_rfl) (fun _ _ _ h => h) (by kernel_rfl) hS0 ?hy81 ?_
                      case hy81 => (intro W hW; clear hW; go_simp; try rfl)
                      simp only [Act.put, List.setIfInBounds_toArray, List.set_cons_zero, List.set_cons_succ]
                      refine takeInH 1 69 ?v82 rfl rfl (by kernel_rfl) (by kernel_rfl) (by kernel_rfl) (fun _ _ _ h => h) (by kernel_rfl) hS0 ?hy82 ?_
                      case hy82 => (intro W hW; clear hW; go_simp; try rfl)
                      simp only [Act.put, List.setIfInBounds_toArray, List.set_cons_zero, List.set_cons_succ]
                      refine takeNoH 2 70 rfl rfl (by kernel_rfl) (by kernel_rfl) (by kernel_rfl) (fun _ _ _ h => h) (by kernel_rfl) hS0 ?_
                      simp only [Act.put, List.setIfInBounds_toArray, List.set_cons_zero, List.set_cons_succ]
                      refine takeNoH 3 71 rfl rfl (by kernel_rfl) (by kernel_rfl) (by kernel_rfl) (fun _ _ _ h => h) (by kernel_rfl) hS0 ?_
                      simp only [Act.put, List.setIfInBounds_toArray, List.set_cons_zero, List.set_cons_succ]
                      refine takeNoH 4 72 rfl rfl (by kernel_rfl) (by kernel_rfl) (by kernel_rfl) (fun _ _ _ h => h) (by kernel_rfl) hS0 ?_
                      simp only [Act.put, List.setIfInBounds_toArray, List.set_cons_zero, List.set_cons_succ]
                      refine takeNoH 5 73 rfl rfl (by kernel_rfl) (by kernel_rfl) (by kernel_rfl) (fun _ _ _ h => h) (by kernel_rfl) hS0 ?_
                      simp only [Act.put, List.setIfInBounds_toArray, List.set_cons_zero, List.set_cons_succ]
                      refine takeNoH 6 74 rfl rfl (by kernel_rfl) (by kernel_rfl) (by kernel_rfl) (fun _ _ _ h => h) (by kernel_rfl) hS0 ?_
                      simp only [Act.put, List.setIfInBounds_toArray, List.set_cons_zero, List.set_cons_succ]
                      refine takeNoH 7 75 rfl rfl (by kernel_rfl) (by kernel_rfl) (by kernel_rfl) (fun _ _ _ h => h) (by kernel_rfl) hS0 ?_
                      simp only [Act.put, List.setIfInBounds_toArray, List.set_cons_zero, List.set_cons_succ]
                      refine takeInH 8 76 ?v83 rfl rfl (by kernel_rfl) (by kernel_rfl) (by kernel_rfl) (fun _ _ _ h => h) (by kernel_rfl) hS0 ?hy83 ?_
                      case hy83 => (intro W hW; clear hW; go_simp; try rfl)
                      simp only [Act.put, List.setIfInBounds_toArray, List.set_cons_zero, List.set_cons_succ]
                      refine takeInH 9 11 ?v84 rfl rfl (by kernel_rfl) (by kernel_rfl) (by kernel_rfl) (fun _ _ _ h => h) (by kernel_rfl) hS0 ?hy84 ?_
                      case hy84 => (intro W hW; clear hW; go_simp; try rfl)
                      simp only [Act.put, List.setIfInBounds_toArray, List.set_cons_zero, List.set_cons_succ]
                      refine wpAnyH_done (by kernel_rfl) ?_ _
                      replace HB2 := hide (bel_next HB2.out hS0)
                      replace c0 := bcell hS0 c0
                      replace y0 := bcell hS0 y0
                      replace c1 := bcell hS0 c1
                      replace y1 := bcell hS0 y1
                      replace c2 := bcell hS0 c2
                      replace y2 := bcell hS0 y2
                      replace c3 := bcell hS0 c3
                      replace y3 := bcell hS0 y3
                      clear hS0
                      generalize wo.drew = x1 at *
                      go_upto_region 17 with fail
                      refine wp_region_held_drew (S := fun W => Below x1.heap.size x1 W) (by kernel_rfl) ((Below.refl _ x1).drew) (fun hS0 => ?_)
                      refine takeInH 0 77 ?v85 rfl rfl (by kernel_rfl) (by kernel_rfl) (by kernel_rfl) (fun _ _ _ h => h) (by kernel_rfl) hS0 ?hy85 ?_
                      case hy85 => (intro W hW; clear hW; go_simp; try rfl)
                      simp only [Act.put, List.setIfInBounds_toArray, List.set_cons_zero, List.set_cons_succ]
                      refine takeInH 1 78 ?v86 rfl rfl (by kernel_rfl) (by kernel_rfl) (by kernel_rfl) (fun _ _ _ h => h) (by kernel_rfl) hS0 ?hy86 ?_
                      case hy86 => (intro W hW; clear hW; go_simp; try rfl)
                      simp only [Act.put, List.setIfInBounds_toArray, List.set_cons_zero, List.set_cons_succ]
                      refine takeInH 2 79 ?v87 rfl rfl (by kernel_rfl) (by kernel_rfl) (by kernel_rfl) (fun _ _ _ h => h) (by kernel_rfl) hS0 ?hy87 ?_
                      case hy87 => (intro W hW; clear hW; go_simp; try rfl)
                      simp only [Act.put, List.setIfInBounds_toArray, List.set_cons_zero, List.set_cons_succ]
                      refine takeInH 3 80 ?v88 rfl rfl (by kernel_rfl) (by kernel_rfl) (by kernel_rfl) (fun _ _ _ h => h) (by kernel_rfl) hS0 ?hy88 ?_
                      case hy88 => (intro W hW; clear hW; go_simp; try rfl)
                      simp only [Act.put, List.setIfInBounds_toArray, List.set_cons_zero, List.set_cons_succ]
                      refine takeInH 4 81 ?v89 rfl rfl (by kernel_rfl) (by kernel_rfl) (by kernel_rfl) (fun _ _ _ h => h) (by kernel_rfl) hS0 ?hy89 ?_
                      case hy89 => (intro W hW; clear hW; go_simp; try rfl)
                      simp only [Act.put, List.setIfInBounds_toArray, List.set_cons_zero, List.set_cons_succ]
                      refine takeInH 5 82 ?v90 rfl rfl (by kernel_rfl) (by kernel_rfl) (by kernel_rfl) (fun _ _ _ h => h) (by kernel_rfl) hS0 ?hy90 ?_
                      case hy90 => (intro W hW; clear hW; go_simp; try rfl)
                      simp only [Act.put, List.setIfInBounds_toArray, List.set_cons_zero, List.set_cons_succ]
                      refine takeInH 6 83 ?v91 rfl rfl (by kernel_rfl) (by kernel_rfl) (by kernel_rfl) (fun _ _ _ h => h) (by kernel_rfl) hS0 ?hy91 ?_
                      case hy91 => (intro W hW; have e0 := bcell hW c0; have e1 := bcell hW c1; have e2 := bcell hW c2; have e3 := bcell hW c3; have e4 := bcell hW y0; have e5 := bcell hW y1; have e6 := bcell hW y2; have e7 := bcell hW y3; clear hW; go_simp; try rfl)
                      simp only [Act.put, List.setIfInBounds_toArray, List.set_cons_zero, List.set_cons_succ]
                      refine takeInH 7 84 ?v92 rfl rfl (by kernel_rfl) (by kernel_rfl) (by kernel_rfl) (fun _ _ _ h => h) (by kernel_rfl) hS0 ?hy92 ?_
                      case hy92 => (intro W hW; have e0 := bcell hW c0; have e1 := bcell hW c1; have e2 := bcell hW c2; have e3 := bcell hW c3; have e4 := bcell hW y0; have e5 := bcell hW y1; have e6 := bcell hW y2; have e7 := bcell hW y3; clear hW; go_simp; try rfl)
                      simp only [Act.put, List.setIfInBounds_toArray, List.set_cons_zero, List.set_cons_succ]
                      refine wpAnyH_ready (rs := [8]) (by kernel_rfl) (by simp) ?_
                      refine AllReadyH.cons rfl (fun K hK => ?_) AllReadyH.nil
                      go_simp
                      refine (Later12_any k k ta tx rp rx wd wx _).mono ?_
                      rintro e wl ⟨rfl, hb⟩
                      rw [show laterN (k, ta, rp, wd) (k, tx, rx, wx) = false from HLT.out]
                      refine hK.out _ _ ?hs93 (fun hS1 => ?_)
                      case hs93 => exact bel_next hS0 hb
                      clear hK K hb
                      try simp only [Act.put, List.setIfInBounds_toArray, List.set_cons_zero, List.set_cons_succ]
                      refine takeInH 9 86 ?v94 rfl rfl (by kernel_rfl) (by kernel_rfl) (by kernel_rfl) (fun _ _ _ h => h) (by kernel_rfl) hS1 ?hy94 ?_
                      case hy94 => (intro W hW; clear hW; go_simp; try rfl)
                      simp only [Act.put, List.setIfInBounds_toArray, List.set_cons_zero, List.set_cons_succ]
                      refine wpAnyH_done (by kernel_rfl) ?_ _
                      go_wp2
                      go_roundw
                      case rel => exact ⟨i0 + 1, true, by omega, by go_num, rfl, HSM2, (show Hid _ from bel_next HB2.out hS1)⟩
                      case measure => simp [intOf]; omega
                · rw [decide_eq_false he] at hq
                  have HSM2 : Hid (smN s kx (some (kx, tx, rx, wx)) (i0 + 1) = sm) := by unfold Hid; rw [smN_skip1 HX.out he, HSM.out]
                  go_wp2
                  go_roundw
                  case rel => exact ⟨i0 + 1, sm, by omega, by go_num, rfl, HSM2, HB2⟩
                  case measure => simp [intOf]; omega
              · obtain rfl : i0 = k0 := by omega
                have HSE : Hid (sm = true) := by unfold Hid; rw [← HSM.out]; exact HEND.out
                obtain rfl := HSE.out
                replace HB2 := hide (bel_next HB.out HB2.out)
                go_wp2_with (go_at_call 8; refine (awake12 _).mono ?_; rintro e wz ⟨rfl, hb⟩)
                go_ret
                exact ⟨rfl, bel_next HB2.out hb⟩
    · have h2 : ¬ ((t.size : Int) ≤ 100) := by omega
      go_wp2_with (go_at_call 8; refine (awake12 _).mono ?_; rintro e wz ⟨rfl, hb⟩)
      go_ret
      exact ⟨rfl, bel_next BB.out hb⟩

/-! ### The row's step -/
set_option maxRecDepth 100000 in
theorem lifted (os : Os) (started : os.Started) (H : Type) (enc : TypeId × Value → H) :
    ReturnsInHanded {} Try.checked os 6 .any (Rows.registerLastSpec.pre6 enc Try.prog Try.f6 Rows.registerLastRow.domain false) (Rows.registerLastSpec.post enc Try.prog Try.f6 false true false false) := by
  refine returnsInHanded_of_change_sized (C := Try.checked) own started (by kernel_rfl) Try.func6
    (ChangeSpec.witness6 (enc := enc) (C := Try.checked) false ⟨#[], #[.slice none 0 0, .string ⟨#[]⟩], []⟩ 8 (by kernel_rfl) (by kernel_rfl) (by kernel_rfl) (by kernel_rfl)) ?_
  intro W base args ds gs before hval0 hW hcnd hz0 _
  have hval : ∀ (j : Nat) t v, Try.f6.params[j]? = some t → args[j]? = some v → Value.okWide Try.prog W .any base t v := hval0
  have hz : (DataW.weightsEach Try.prog (Try.f6.params.toList ++ Rows.registerLastSpec.plain.varTypes Try.prog) (ds ++ gs)).all (· ≤ reachBytes) = true := hz0
  have hW' := hW
  obtain ⟨p, q, hA0, hV, rfl, hfz, hnd⟩ := hW
  have hA : DataW.TrodAll enc Try.prog W 0 (fun _ => true) true Try.f6.params.toList args.toList ds p := hA0
  rw [Try.params6] at hA hval hz
  obtain ⟨v0, vs0, d0, ds0, p0, q0, hargs, rfl, rfl, h0, r0⟩ := trodAll_cons hA
  obtain ⟨v1, vs1, d1, ds1, p1, q1, rfl, rfl, rfl, h1, r1⟩ := trodAll_cons r0
  obtain ⟨rfl, rfl, rfl⟩ := trodAll_nil r1
  obtain rfl : args = #[v0, v1] := by cases args; simp_all
  obtain ⟨rfl, rfl⟩ := trodVars_none hV
  have k0 := h0
  have lt0 : ∀ x ∈ p0, x.block < W.heap.size := by obtain ⟨m, hm⟩ := k0; exact DataW.trod_lt m _ _ _ hm
  have w0 : InNn W v0 := in_notes (hval 0 22 v0 rfl rfl) h0 (fun n hn => by have := List.all_eq_true.1 hz n (DataW.weights_mem_each (j := 0) (t := 22) rfl rfl n hn); simpa using this)
  have k1 := h1
  have lt1 : ∀ x ∈ p1, x.block < W.heap.size := by obtain ⟨m, hm⟩ := k1; exact DataW.trod_lt m _ _ _ hm
  have w1 : InS10 W v1 := in_str10 (hval 1 9 v1 rfl rfl) h1 (fun n hn => by have := List.all_eq_true.1 hz n (DataW.weights_mem_each (j := 1) (t := 9) rfl rfl n hn); simpa using this)
  clear hA0 hval0 hz0
  refine (walk v0 v1 W w0 w1).mono fun e W' ⟨he, bel⟩ => ?_
  subst he
  exact ⟨_, rfl, _, _, _, [], _, [], hW', trodAll_mk1 (shut_bool Try.underlying4 _), (trodAll_cons_mk (Below.trod laidOut (by kernel_rfl) (of_decide_eq_true (by kernel_rfl)) k0 bel lt0) (trodAll_cons_mk (Below.trod laidOut (by kernel_rfl) (of_decide_eq_true (by kernel_rfl)) k1 bel lt1) trodAll_mk0)), rfl, bel.frame _, fun h => by cases h⟩

theorem over : Rows.registerLastRow.holds Try.pinned (OpenSpec.ofChange Rows.registerLastSpec) :=
  OpenClaim.holds_of_wide 6 Try.f6 rfl rfl rfl rfl rfl rfl rfl ⟨rfl, rfl, rfl, rfl, rfl⟩ rfl rfl rfl rfl rfl (by kernel_rfl) Try.func6 (by kernel_rfl)
    (of_decide_eq_true (by kernel_rfl)) (by unfold Func.isWrapper; first | (rw [if_pos (by decide +kernel)]; kernel_rfl) | (rw [if_neg (by decide +kernel)]; exact ⟨rfl, rfl⟩))
    (fun os started H enc _ => lifted os started H enc)
end Go.Proofs.Ytohkopjacpendaa.registerLast
namespace Go.Proofs.Ytohkopjacpendaa
theorem registerLast_holds : Rows.RegisterLastSaid := registerLast.over
end Go.Proofs.Ytohkopjacpendaa
