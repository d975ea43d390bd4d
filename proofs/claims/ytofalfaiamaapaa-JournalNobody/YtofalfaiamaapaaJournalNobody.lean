/- Nobody's journal is broken, and there is none without a disk, or on a dead one: it is so for any records. -/
import Derived.Test.YtofalfaiamaapaaRows
import Derived.WalkKit
import Derived.ProofKit
import Derived.OpenShut
import Derived.ShutString
import Derived.ChangeOld
import Derived.Below
import Derived.SizedLaws
import Derived.Test.YtofalfaiamaapaaQ10
import Derived.Test.YtofalfaiamaapaaJ5
namespace Go.Proofs.Ytofalfaiamaapaa.journalNobody
open Go.ChangeShapes Go.WideShapes Go.ChangeAt Go.RowKit
set_option linter.unusedVariables false

theorem own : ownKnob Try.prog.godebug = none := by kernel_rfl
theorem laidOut : laidOutB Try.prog = true := by kernel_rfl

theorem walk (v0 : Value) (w : World) (w0 : InRs w v0) :
    Calls Try.prog 6 #[v0] w fun e w' => e = .returned (.bool true) ∧ Below w.heap.size w w' := by
  obtain ⟨a, n, cap, l, rfl, hrc, hcp, _⟩ := w0
  have hmx := hrc.max
  unfold maxLen at hmx
  clear hrc hcp
  by_cases hn : n > 20
  · have hn' : (n : Int) > 20 := by omega
    go_enter Try.func6, Try.ntmps6
    go_wp2_with fail
    refine (awake7 w).mono ?_
    rintro e w1 ⟨rfl, hb⟩
    have HB := hide hb
    go_wp2
    go_ret
    exact ⟨rfl, HB.out⟩
  · have hn' : ¬ (n : Int) > 20 := by omega
    go_enter Try.func6, Try.ntmps6
    go_wp2
    go_loopw [3] (fun k wr => ∃ j : Nat, j ≤ 2 ∧ k = .int .i64 j ∧ Hid (Below w.heap.size w wr)) (fun k _ => 2 - (intOf k).toNat)
    case atStart => exact ⟨0, by omega, rfl, Below.refl _ _⟩
    case round =>
      obtain ⟨j, hj, rfl, HB⟩ := hrel
      rcases (by omega : j = 0 ∨ j = 1 ∨ j = 2) with rfl | rfl | rfl
      · have HN : Hid (Nob wr (.pointer none)) := .inl rfl
        go_wp2_with fail
        refine (Put_nob _ _ wr HN.out).mono ?_
        rintro e w1 ⟨rfl, rfl⟩
        go_wp2_with fail
        refine (Sync_nob _ _ HN.out).mono ?_
        rintro e w1 ⟨rfl, rfl⟩
        go_wp2_with fail
        refine (Renew_nob _ _ _ HN.out).mono ?_
        rintro e w1 ⟨rfl, rfl⟩
        go_wp2_with fail
        refine (Turn_nob _ _ HN.out).mono ?_
        rintro e w1 ⟨rfl, rfl⟩
        go_wp2_with fail
        refine (Size_nob _ _ HN.out).mono ?_
        rintro e w1 ⟨rfl, rfl⟩
        go_wp2_with fail
        refine (Broken_nob _ _ HN.out).mono ?_
        rintro e w1 ⟨rfl, rfl⟩
        go_wp2
        go_roundw
        case rel => exact ⟨1, by omega, by go_num, HB⟩
        case measure => simp [intOf]
      · have HN : Hid (Nob (wr.alloc (.cells #[.pointer none, .int .i64 0, .int .i64 0, .bool false] 62)) (.pointer (some ⟨wr.heap.size, 0, none⟩))) := .inr ⟨_, rfl, BX.new wr _ rfl _ _⟩
        have HB2 := hide (HB.out.alloc HB.out.size (.cells #[.pointer none, .int .i64 0, .int .i64 0, .bool false] 62))
        go_wp2_with fail
        refine (Put_nob _ _ _ HN.out).mono ?_
        rintro e w1 ⟨rfl, rfl⟩
        generalize wr.alloc (.cells #[.pointer none, .int .i64 0, .int .i64 0, .bool false] 62) = w2 at *
        go_wp2_with fail
        refine (Sync_nob _ _ HN.out).mono ?_
        rintro e w1 ⟨rfl, rfl⟩
        go_wp2_with fail
        refine (Renew_nob _ _ _ HN.out).mono ?_
        rintro e w1 ⟨rfl, rfl⟩
        go_wp2_with fail
        refine (Turn_nob _ _ HN.out).mono ?_
        rintro e w1 ⟨rfl, rfl⟩
        go_wp2_with fail
        refine (Size_nob _ _ HN.out).mono ?_
        rintro e w1 ⟨rfl, rfl⟩
        go_wp2_with fail
        refine (Broken_nob _ _ HN.out).mono ?_
        rintro e w1 ⟨rfl, rfl⟩
        go_wp2
        go_roundw
        case rel => exact ⟨2, by omega, by go_num, HB2⟩
        case measure => simp [intOf]
      · go_wp2_with fail
        refine (Open_nil wr).mono ?_
        rintro e w1 ⟨rfl, rfl⟩
        go_wp2_with fail
        refine (Open_zero _ _ (BX.new _ _ rfl ZD 69)).mono ?_
        rintro e w2 ⟨rfl, hb⟩
        have HB2 := hide (bel_next (HB.out.alloc HB.out.size _) hb)
        clear hb
        go_wp2_with fail
        refine (awake7 w2).mono ?_
        rintro e w3 ⟨rfl, hb⟩
        have HB3 := hide (bel_next HB2.out hb)
        go_wp2
        go_ret
        exact ⟨rfl, HB3.out⟩

/-! ### The row's step -/
set_option maxRecDepth 100000 in
theorem lifted (os : Os) (started : os.Started) (H : Type) (enc : TypeId × Value → H) :
    ReturnsInHanded {} Try.checked os 6 .any (Rows.journalNobodySpec.pre6 enc Try.prog Try.f6 Rows.journalNobodyRow.domain false) (Rows.journalNobodySpec.post enc Try.prog Try.f6 false true false false) := by
  refine returnsInHanded_of_change_sized (C := Try.checked) own started (by kernel_rfl) Try.func6
    (ChangeSpec.witness6 (enc := enc) (C := Try.checked) false ⟨#[], #[.slice none 0 0], []⟩ 8 (by kernel_rfl) (by kernel_rfl) (by kernel_rfl) (by kernel_rfl)) ?_
  intro W base args ds gs before hval0 hW hcnd hz0 _
  have hval : ∀ (j : Nat) t v, Try.f6.params[j]? = some t → args[j]? = some v → Value.okWide Try.prog W .any base t v := hval0
  have hz : (DataW.weightsEach Try.prog (Try.f6.params.toList ++ Rows.journalNobodySpec.plain.varTypes Try.prog) (ds ++ gs)).all (· ≤ reachBytes) = true := hz0
  have hW' := hW
  obtain ⟨p, q, hA0, hV, rfl, hfz, hnd⟩ := hW
  have hA : DataW.TrodAll enc Try.prog W 0 (fun _ => true) true Try.f6.params.toList args.toList ds p := hA0
  rw [Try.params6] at hA hval hz
  obtain ⟨v0, vs0, d0, ds0, p0, q0, hargs, rfl, rfl, h0, r0⟩ := trodAll_cons hA
  obtain ⟨rfl, rfl, rfl⟩ := trodAll_nil r0
  obtain rfl : args = #[v0] := by cases args; simp_all
  obtain ⟨rfl, rfl⟩ := trodVars_none hV
  have k0 := h0
  have lt0 : ∀ x ∈ p0, x.block < W.heap.size := by obtain ⟨m, hm⟩ := k0; exact DataW.trod_lt m _ _ _ hm
  have w0 : InRs W v0 := in_recs (hval 0 30 v0 rfl rfl) h0 (fun n hn => by have := List.all_eq_true.1 hz n (DataW.weights_mem_each (j := 0) (t := 30) rfl rfl n hn); simpa using this)
  clear hA0 hval0 hz0
  refine (walk v0 W w0).mono fun e W' ⟨he, bel⟩ => ?_
  subst he
  exact ⟨_, rfl, _, _, _, [], _, [], hW', trodAll_mk1 (shut_bool Try.underlying4 _), (trodAll_cons_mk (Below.trod laidOut (by kernel_rfl) (of_decide_eq_true (by kernel_rfl)) k0 bel lt0) trodAll_mk0), rfl, bel.frame _, fun h => by cases h⟩

theorem over : Rows.journalNobodyRow.holds Try.pinned (OpenSpec.ofChange Rows.journalNobodySpec) :=
  OpenClaim.holds_of_wide 6 Try.f6 rfl rfl rfl rfl rfl rfl rfl ⟨rfl, rfl, rfl, rfl, rfl⟩ rfl rfl rfl rfl rfl (by kernel_rfl) Try.func6 (by kernel_rfl)
    (of_decide_eq_true (by kernel_rfl)) (by unfold Func.isWrapper; first | (rw [if_pos (by decide +kernel)]; kernel_rfl) | (rw [if_neg (by decide +kernel)]; exact ⟨rfl, rfl⟩))
    (fun os started H enc _ => lifted os started H enc)
end Go.Proofs.Ytofalfaiamaapaa.journalNobody
namespace Go.Proofs.Ytofalfaiamaapaa
theorem journalNobody_holds : Rows.JournalNobodySaid := journalNobody.over
end Go.Proofs.Ytofalfaiamaapaa
