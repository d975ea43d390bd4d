/- For every number and every texts: the statement 'WirePuts' returns true, and its arguments read behind the call as they read before. No condition. -/
import Derived.Test.YtgmimneendnfgaaRows
import Derived.WalkKit
import Derived.ProofKit
import Derived.OpenShut
import Derived.ShutString
import Derived.ChangeOld
import Derived.Below
import Derived.SizedLaws
import Derived.Test.YtgmimneendnfgaaWHeld
namespace Go.Proofs.Ytgmimneendnfgaa.wirePuts
open Go.ChangeShapes Go.WideShapes Go.ChangeAt Go.RowKit
set_option linter.unusedVariables false

theorem own : ownKnob Try.prog.godebug = none := by kernel_rfl
theorem laidOut : laidOutB Try.prog = true := by kernel_rfl

/-! ### The walk -/
theorem pack_by {ps : List (List Int)} (h : ∀ p ∈ ps, By p) : By (pack ps) := (num_by _).append (By.flat fun p hp => text_by (h p hp))

set_option maxHeartbeats 16000000 in
set_option maxRecDepth 100000 in
theorem walk (a0 : Int) (v1 : Value) (w : World) (w0 : (Lit.int .u64 a0).wf = true) (w1 : InT w v1) :
    Calls Try.prog 3 #[.int .u64 a0, v1] w fun e w' => e = .returned (.bool true) ∧ Below w.heap.size w w' := by
  obtain ⟨a, n, cap, ps, rfl, hP, hC, hn, hps⟩ := w1
  have HP := hide hP
  have Hl := hide hP.1
  have Hps := hide hps
  have Hn := hide hn
  have hu : 0 ≤ a0 ∧ a0 < 18446744073709551616 := by simp [Lit.wf, IntKind.min, IntKind.max, IntKind.bits, IntKind.signed] at w0; omega
  obtain ⟨hu0, hu1⟩ := hu
  clear hP hps hn w0 hC
  go_enter Try.func3, Try.ntmps3
  go_wp2_with fail
  refine (light_any a n cap ps w HP.out Hn.out Hps.out).mono ?_
  rintro e w1 ⟨r, rfl, rfl, hr⟩
  have Hr := hide hr
  clear hr
  rcases r with _ | _
  · go_wp2_with fail
    refine (awake_any w1).mono ?_
    rintro e w' ⟨rfl, hb⟩
    have Hb := hide hb
    clear hb
    go_wp2
    go_ret
    exact ⟨rfl, Hb.out⟩
  · have hn60 := (Hr.out rfl).1
    have H4 := hide (Hr.out rfl).2
    have hnI : (n : Int) ≤ 60 := by omega
    have Hn60 := hide hn60
    clear hn60 Hr Hn Hps
    go_wp2
    go_loopw [5] (fun i wr => ∃ k : Nat, k ≤ n ∧ i = .int .i64 (k : Int) ∧ Hid (Below w1.heap.size w1 wr)) (fun i _ => n - (intOf i).toNat)
    case atStart => exact ⟨0, by omega, rfl, Below.refl _ _⟩
    case round =>
      obtain ⟨k, hk, rfl, hbel⟩ := hrel
      by_cases hlt : k < n
      · obtain ⟨b, off, x, len, c, rfl, q, hbs, hcp⟩ := (HP.out.below hbel.out).at k hlt
        have hkl : k < ps.length := by rw [Hl.out]; exact hlt
        have HE := hide hbs
        have Hcp := hide hcp.2.2
        have Hlen : Hid (len ≤ 1000000) := by have := hbs.1; have := H4.out _ (getD_mem hkl); show _ ≤ _; omega
        have hbyT := hide (text_by hbs.2.2.1)
        have hltI : (k : Int) < (n : Int) := by omega
        have hk0 : wr.drew.cell? ⟨b, off + k, none⟩ = some (.slice x len c) ∧ Hid (Below wr.heap.size wr wr.drew) := ⟨q, (Below.refl _ wr).drew⟩
        have hsz := hbel.out.size
        clear hbs hcp hkl
        generalize ps.getD k [] = p at HE hbyT
        go_wp2
        go_region_held3 (fun W => W.cell? ⟨b, off + k, none⟩ = some (.slice x len c) ∧ Hid (Below wr.heap.size wr W)) (first | exact hk1 | exact hk0) (first
          | (go_at_call 12; refine (text_any _ _ _ p _ (by exact HE.out.held (by assumption)) Hcp.out Hlen.out).mono ?_; rintro e w2 ⟨v2, rfl, hown2, hb2⟩; obtain ⟨p2, c2, rfl, hbs2, hcp2⟩ := hown2.open hbyT.out; have hk1 := held_next (by assumption) hb2; have HT := hide hbs2; (try have HR := hide (HR.out.below hb2)); clear hown2 hbs2 hcp2 hb2)
          | (go_at_call 13; refine (refText_any _ _ _ p _ (by exact HE.out.held (by assumption)) Hcp.out Hlen.out).mono ?_; rintro e w3 ⟨v3, rfl, hown3, hb3⟩; obtain ⟨p3, c3, rfl, hbs3, hcp3⟩ := hown3.open hbyT.out; have hk1 := held_next (by assumption) hb3; have HR := hide hbs3; (try have HT := hide (HT.out.below hb3)); clear hown3 hbs3 hcp3 hb3)
          | (go_at_call 11; refine (bytes_as _ _ _ _ _ _ (text p) (text p) _ true (by simp) (by exact HT.out) (by exact HR.out)).mono ?_; rintro e w4 ⟨rfl, hb4⟩; have hk1 := held_next (by assumption) hb4; clear hb4))
        have hbel2 := hide (hbel.out.trans (hk1.2.out.mono hsz))
        clear hk1 hk0 HT HR
        go_wp2
        go_roundw
        case rel => exact ⟨k + 1, by omega, by go_num, hbel2⟩
        case measure => simp [intOf]; omega
      · have hkn : k = n := by omega
        subst hkn
        have hP60 : Hid (∀ p ∈ ps, p.length ≤ 100000) := fun p hp => Nat.le_trans (H4.out p hp) (by decide)
        have hP1000 : Hid (k ≤ 1000) := Nat.le_trans Hn60.out (by decide)
        have hbyP := hide (pack_by HP.out.by)
        go_wp2_with fail
        refine (num_any a0 wr hu0 hu1).mono ?_
        rintro e w2 ⟨v2, rfl, hown2, hb2⟩
        obtain ⟨p2, c2, rfl, hbs2, hcp2⟩ := hown2.open (num_by a0)
        have HS2 := hide hbs2
        have HZ2 := hide (hbel.out.trans (hb2.mono hbel.out.size))
        clear hown2 hbs2 hcp2 hb2 hbel
        go_wp2_with fail
        refine (refNum_any a0 w2 hu0 hu1).mono ?_
        rintro e w3 ⟨v3, rfl, hown3, hb3⟩
        obtain ⟨p3, c3, rfl, hbs3, hcp3⟩ := hown3.open (num_by a0)
        have HR3 := hide hbs3
        have HS3 := hide (HS2.out.below hb3)
        have HZ3 := hide (HZ2.out.trans (hb3.mono HZ2.out.size))
        clear hown3 hbs3 hcp3 hb3 HS2 HZ2
        go_wp2_with fail
        refine (bytes_as _ _ _ _ _ _ (num a0) (num a0) _ true (by simp) HS3.out HR3.out).mono ?_
        rintro e w4 ⟨rfl, hb4⟩
        have HZ4 := hide (HZ3.out.trans (hb4.mono HZ3.out.size))
        clear hb4 HZ3 HS3 HR3
        go_wp2_with fail
        refine (pack_any _ _ _ ps w4 (HP.out.below HZ4.out) hP1000.out hP60.out).mono ?_
        rintro e w5 ⟨v5, rfl, hown5, hb5⟩
        obtain ⟨p5, c5, rfl, hbs5, hcp5⟩ := hown5.open hbyP.out
        have HS5 := hide hbs5
        have HZ5 := hide (HZ4.out.trans (hb5.mono HZ4.out.size))
        clear hown5 hbs5 hcp5 hb5 HZ4
        go_wp2_with fail
        refine (refPack_any _ _ _ ps w5 (HP.out.below HZ5.out) hP1000.out hP60.out).mono ?_
        rintro e w6 ⟨v6, rfl, hown6, hb6⟩
        obtain ⟨p6, c6, rfl, hbs6, hcp6⟩ := hown6.open hbyP.out
        have HR6 := hide hbs6
        have HS6 := hide (HS5.out.below hb6)
        have HZ6 := hide (HZ5.out.trans (hb6.mono HZ5.out.size))
        clear hown6 hbs6 hcp6 hb6 HZ5 HS5
        go_wp2_with fail
        refine (bytes_as _ _ _ _ _ _ (pack ps) (pack ps) _ true (by simp) HS6.out HR6.out).mono ?_
        rintro e w7 ⟨rfl, hb7⟩
        have HZ7 := hide (HZ6.out.trans (hb7.mono HZ6.out.size))
        clear hb7 HZ6 HS6 HR6
        go_wp2_with fail
        refine (awake_any _).mono ?_
        rintro e w8 ⟨rfl, hb8⟩
        have Hb8 := hide hb8
        clear hb8
        go_wp2
        go_ret
        exact ⟨rfl, HZ7.out.trans (Hb8.out.mono HZ7.out.size)⟩

/-! ### The row's step -/
set_option maxRecDepth 100000 in
theorem lifted (os : Os) (started : os.Started) (H : Type) (enc : TypeId × Value → H) :
    ReturnsInHanded {} Try.checked os 3 .any (Rows.wirePutsSpec.pre6 enc Try.prog Try.f3 Rows.wirePutsRow.domain false) (Rows.wirePutsSpec.post enc Try.prog Try.f3 false true false false) := by
  refine returnsInHanded_of_change_sized (C := Try.checked) own started (by kernel_rfl) Try.func3
    (ChangeSpec.witness6 (enc := enc) (C := Try.checked) false ⟨#[], #[.int .u64 0, .slice none 0 0], []⟩ 8 (by kernel_rfl) (by kernel_rfl) (by kernel_rfl) (by kernel_rfl)) ?_
  intro W base args ds gs before hval0 hW hcnd hz0 _
  have hval : ∀ (j : Nat) t v, Try.f3.params[j]? = some t → args[j]? = some v → Value.okWide Try.prog W .any base t v := hval0
  have hz : (DataW.weightsEach Try.prog (Try.f3.params.toList ++ Rows.wirePutsSpec.plain.varTypes Try.prog) (ds ++ gs)).all (· ≤ reachBytes) = true := hz0
  have hW' := hW
  obtain ⟨p, q, hA0, hV, rfl, hfz, hnd⟩ := hW
  have hA : DataW.TrodAll enc Try.prog W 0 (fun _ => true) true Try.f3.params.toList args.toList ds p := hA0
  rw [Try.params3] at hA hval hz
  obtain ⟨v0, vs0, d0, ds0, p0, q0, hargs, rfl, rfl, h0, r0⟩ := trodAll_cons hA
  obtain ⟨v1, vs1, d1, ds1, p1, q1, rfl, rfl, rfl, h1, r1⟩ := trodAll_cons r0
  obtain ⟨rfl, rfl, rfl⟩ := trodAll_nil r1
  obtain rfl : args = #[v0, v1] := by cases args; simp_all
  obtain ⟨rfl, rfl⟩ := trodVars_none hV
  obtain ⟨a0, rfl, rfl, rfl, w0⟩ := open_int Try.underlying22 (hval 0 22 v0 rfl rfl) h0
  have k1 := h1
  have lt1 : ∀ x ∈ p1, x.block < W.heap.size := by obtain ⟨m, hm⟩ := k1; exact DataW.trod_lt m _ _ _ hm
  have w1 : InT W v1 := in_texts (hval 1 23 v1 rfl rfl) h1 (fun n hn => by have := List.all_eq_true.1 hz n (DataW.weights_mem_each (j := 1) (t := 23) rfl rfl n hn); simpa using this)
  clear hA0 hval0 hz0
  refine (walk a0 v1 W w0 w1).mono fun e W' ⟨he, bel⟩ => ?_
  subst he
  exact ⟨_, rfl, _, _, _, [], _, [], hW', trodAll_mk1 (shut_bool Try.underlying4 _), (trodAll_cons_mk (shut_int Try.underlying22 w0) (trodAll_cons_mk (Below.trod laidOut (by kernel_rfl) (of_decide_eq_true (by kernel_rfl)) k1 bel lt1) trodAll_mk0)), rfl, bel.frame _, fun h => by cases h⟩

theorem over : Rows.wirePutsRow.holds Try.pinned (OpenSpec.ofChange Rows.wirePutsSpec) :=
  OpenClaim.holds_of_wide 3 Try.f3 rfl rfl rfl rfl rfl rfl rfl ⟨rfl, rfl, rfl, rfl, rfl⟩ rfl rfl rfl rfl rfl (by kernel_rfl) Try.func3 (by kernel_rfl)
    (of_decide_eq_true (by kernel_rfl)) (by unfold Func.isWrapper; first | (rw [if_pos (by decide +kernel)]; kernel_rfl) | (rw [if_neg (by decide +kernel)]; exact ⟨rfl, rfl⟩))
    (fun os started H enc _ => lifted os started H enc)
end Go.Proofs.Ytgmimneendnfgaa.wirePuts
namespace Go.Proofs.Ytgmimneendnfgaa
theorem wirePuts_holds : Rows.WirePutsSaid := wirePuts.over
end Go.Proofs.Ytgmimneendnfgaa
