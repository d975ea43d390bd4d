/- In which order, and how often, notes are set does not matter. -/
import Derived.Test.YtohkopjacpendaaRows
import Derived.WalkKit
import Derived.ProofKit
import Derived.OpenShut
import Derived.ShutString
import Derived.ChangeOld
import Derived.Below
import Derived.SizedLaws
import Derived.Test.YtohkopjacpendaaGNq
import Derived.Test.YtohkopjacpendaaGNr
namespace Go.Proofs.Ytohkopjacpendaa.registerOrders
open Go.ChangeShapes Go.WideShapes Go.ChangeAt Go.RowKit
set_option linter.unusedVariables false

theorem own : ownKnob Try.prog.godebug = none := by kernel_rfl
theorem laidOut : laidOutB Try.prog = true := by kernel_rfl

set_option maxHeartbeats 16000000 in
theorem walk (v0 : Value) (v1 : Value) (w : World) (w0 : InNn w v0) (w1 : InU w v1) :
    Calls Try.prog 5 #[v0, v1] w fun e w' => e = .returned (.bool true) ∧ Below w.heap.size w w' := by
  obtain ⟨a, n, cap, s, rfl, hA, hcp⟩ := w0
  obtain ⟨pt, nt, ct, tl, rfl, hT, _⟩ := w1
  have HV := hide hA
  have HT := hide hT
  have HLEN := hide hA.1
  have BB : Hid (Below w.heap.size w w) := Below.refl _ _
  clear hA hcp hT
  go_enter Try.func5, Try.ntmps5
  go_wp2_with (go_at_call 7; refine (light12 a n cap s _ HV.out).mono ?_; rintro e w1 ⟨bl, rfl, hl, rfl⟩; refine Stop.at ?_)
  unfold Stop
  cases bl
  · clear hl
    go_wp2_with (go_at_call 8; refine (awake12 _).mono ?_; rintro e wz ⟨rfl, hb⟩)
    go_ret
    exact ⟨rfl, bel_next BB.out hb⟩
  · obtain ⟨hn60, hfew⟩ := hl rfl
    clear hl hfew
    by_cases h1 : (nt : Int) ≤ 100
    · have HTX : Hid (∀ i, i < nt → ∃ x : Int, (∃ bt offt, pt = some ⟨bt, offt, none⟩ ∧ w1.cell? ⟨bt, offt + i, none⟩ = some (.int .u8 x)) ∧ 0 ≤ x ∧ x < 256) := by
        intro i hi
        obtain ⟨g1, g2, g3, g4⟩ := HT.out
        rcases g4 with h0 | ⟨bt, offt, hp, hc⟩
        · omega
        · refine ⟨tl.getD i 0, ⟨bt, offt, hp, hc i hi⟩, ?_⟩
          have hl : i < tl.length := by rw [g1]; exact hi
          rw [List.getD_eq_getElem?_getD, List.getElem?_eq_getElem hl]
          exact g3 _ (List.getElem_mem hl)
      have HB0 := hide (bel2 w1 (.cells #[] 24) (.cells #[] 24))
      go_wp2
      go_loopw [5, 7] (fun V v wr => ∃ (k : Nat) (ps : Option Addr) (cs : Nat) (A : List Nt), k ≤ n ∧ v = .int .i64 k ∧ V = .slice ps A.length cs ∧ Hid (NN wr ps A.length A) ∧ Hid (CP ps A.length cs) ∧ Hid (RF s A k) ∧ Hid (Below w1.heap.size w1 wr)) (fun _ v _ => n - (intOf v).toNat)
      case atStart => exact ⟨0, _, 0, [], by omega, rfl, rfl, (show Hid _ from NN.nil _ _), (show Hid _ from ⟨Nat.le_refl _, by decide, fun h => by cases h⟩), RF.nil s, HB0⟩
      case round =>
        clear HB0
        obtain ⟨k0, ps, cs, A, hk, rfl, rfl, HNA, HCA, HRF, HB⟩ := hrel
        by_cases hlt : k0 < n
        · have hk0 : (0 : Int) ≤ (k0 : Int) := by omega
          have hk1 : (k0 : Int) < (n : Int) := by omega
          obtain ⟨b, off, rfl⟩ := HV.out.addr (by omega)
          obtain ⟨k, ta, rp, wd, hx, c0, c1, c2, c3⟩ := (HV.out.below HB.out).at k0 (by omega)
          have HX := hide hx
          clear hx
          obtain ⟨ns, hns⟩ : ∃ x, A.length = x := ⟨_, rfl⟩
          have HLns := hide hns
          rw [hns] at HNA HCA ⊢
          clear hns
          rcases hon : mayNt (k, ta, rp, wd) with _ | _
          · have HON := hide hon
            clear hon
            go_wp2_with (first | (go_at_call 14; refine (One12_ref k ta rp wd _).mono ?_; rintro e wo ⟨rfl, hb⟩; rw [HON.out]; replace HB := hide (bel_next HB.out hb); replace HNA := hide (HNA.out.below hb); replace c0 := bcell hb c0; replace c1 := bcell hb c1; replace c2 := bcell hb c2; replace c3 := bcell hb c3; clear hb) | (go_at_call 8; refine (awake12 _).mono ?_; rintro e wz ⟨rfl, hb⟩))
            go_ret
            exact ⟨rfl, bel_next HB.out hb⟩
          · have HON := hide hon
            have HMA : Hid (mayR12 A = true) := HRF.out.2.1
            have HLA4 : Hid (A.length < 4000) := by have h := HRF.out.2.2.1; unfold Hid; omega
            have HRF2 : Hid (RF s (setN A (k, ta, rp, wd)) (k0 + 1)) := HRF.out.step HX.out hon (by omega)
            clear hon
            go_wp2_with (first | (go_at_call 14; refine (One12_ref k ta rp wd _).mono ?_; rintro e wo ⟨rfl, hb⟩; rw [HON.out]; replace HB := hide (bel_next HB.out hb); replace HNA := hide (HNA.out.below hb); replace c0 := bcell hb c0; replace c1 := bcell hb c1; replace c2 := bcell hb c2; replace c3 := bcell hb c3; clear hb) | (go_at_call 9; refine (Set12_good ps ns cs A k ta rp wd _ HNA.out HCA.out HMA.out HON.out HLA4.out).mono ?_; rintro e wn ⟨p9, c9, rfl, hn9, hc9, hb⟩; have HN9 := hide hn9; have HC9 := hide hc9; replace HB := hide (bel_next HB.out hb); clear hn9 hc9 hb))
            go_roundw
            case rel => exact ⟨k0 + 1, p9, c9, setN A (k, ta, rp, wd), by omega, by go_num, rfl, HN9, HC9, HRF2, HB⟩
            case measure => simp [intOf]; omega
        · obtain rfl : k0 = n := by omega
          have HRO0 : Hid (RO s [] 0 k0) := by have h := RO.nil s; rw [HLEN.out] at h; exact h
          have HALL : Hid (∀ x ∈ s, mayNt x = true) := by have h := HRF.out.2.2.2; rw [← HLEN.out, List.take_length] at h; exact h
          skip
          generalize hww : wr = wA at *
          clear hww
          go_wp2
          go_loopw [6, 8] (fun V v wr => ∃ (k2 : Nat) (pb : Option Addr) (cb : Nat) (B : List Nt), k2 ≤ nt ∧ v = .int .i64 k2 ∧ V = .slice pb B.length cb ∧ Hid (NN wr pb B.length B) ∧ Hid (CP pb B.length cb) ∧ Hid (RO s B k2 k0) ∧ Hid (Below wA.heap.size wA wr)) (fun _ v _ => nt - (intOf v).toNat)
          case atStart => exact ⟨0, _, 0, [], by omega, rfl, rfl, (show Hid _ from NN.nil _ _), (show Hid _ from ⟨Nat.le_refl _, by decide, fun h => by cases h⟩), HRO0, Below.refl _ _⟩
          case round =>
            clear HRO0
            obtain ⟨k2, pb, cb, B, hk2, rfl, rfl, HNB, HCB, HRO, HB2⟩ := hrel
            by_cases hlt2 : k2 < nt
            · have hlt3 : (k2 : Int) < (nt : Int) := by omega
              by_cases hn0 : k0 = 0
              · have hn1 : ¬ ((0 : Int) < (k0 : Int)) := by omega
                have hwn : IntKind.i64.wrap ((k0 : Int) - 1) = (k0 : Int) - 1 := by rw [IntKind.wrap_i64]; omega
                replace HNA := hide (HNA.out.below HB2.out)
                generalize hww : wr = wB at *
                clear hww
                go_wp2
                go_loopw [6, 9] (fun V v wr => ∃ (j c : Nat) (q : Int) (pb : Option Addr) (cb : Nat) (B : List Nt), j ≤ k0 ∧ q + 1 = (j : Int) ∧ c + j ≤ 100 + k0 ∧ v = .int .i64 q ∧ V = .slice pb B.length cb ∧ Hid (NN wr pb B.length B) ∧ Hid (CP pb B.length cb) ∧ Hid (RO s B c j) ∧ Hid (Below wB.heap.size wB wr)) (fun _ v _ => (intOf v + 1).toNat)
                case atStart => exact ⟨k0, k2, (k0 : Int) - 1, pb, cb, B, by omega, by omega, by omega, (by first | rfl | (rw [hn0]; rfl)), rfl, HNB, HCB, HRO, Below.refl _ _⟩
                case round =>
                  clear HNB HCB HRO
                  obtain ⟨j, c, q, pb, cb, B, hj, hq, hc, rfl, rfl, HNB, HCB, HRO, HB3⟩ := hrel
                  obtain ⟨nb, hns⟩ : ∃ x, B.length = x := ⟨_, rfl⟩
                  have HLnb := hide hns
                  rw [hns] at HNB HCB ⊢
                  clear hns
                  rcases j with _ | i
                  · obtain rfl : q = -1 := by omega
                    have HAB : Hid (A = B) := HRO.out.meet HRF.out HLEN.out
                    have HBE := hide (bel_next (bel_next HB.out HB2.out) HB3.out)
                    have HNA3 := hide (HNA.out.below HB3.out)
                    generalize A.length = na at *
                    go_wp2_with (go_at_call 15; refine (Same12_ref ps na cs A pb nb cb B _ HNA3.out HNB.out).mono ?_; rintro e wy ⟨rfl, hb⟩; rw [decide_eq_true HAB.out]; replace HBE := hide (bel_next HBE.out hb); clear hb; refine Stop.at ?_)
                    unfold Stop
                    go_wp2_with (go_at_call 8; refine (awake12 _).mono ?_; rintro e wz ⟨rfl, hb⟩)
                    go_ret
                    exact ⟨rfl, bel_next HBE.out hb⟩
                  · obtain rfl : q = (i : Int) := by omega
                    obtain ⟨b, off, rfl⟩ := HV.out.addr (by omega)
                    obtain ⟨k, ta, rp, wd, hx, c0, c1, c2, c3⟩ := (HV.out.below (bel_next (bel_next HB.out HB2.out) HB3.out)).at i (by omega)
                    have HX := hide hx
                    clear hx
                    have HON : Hid (mayNt (k, ta, rp, wd) = true) := HALL.out _ (List.mem_of_getElem? HX.out)
                    have HMB : Hid (mayR12 B = true) := HRO.out.may.1
                    have HLB4 : Hid (B.length < 4000) := by have h := HRO.out.may.2; unfold Hid; omega
                    have HRO2 : Hid (RO s (setN B (k, ta, rp, wd)) (c + 1) i) := HRO.out.back HALL.out HX.out (by omega)
                    have hi0 : (0 : Int) ≤ (i : Int) := by omega
                    have hi1 : (i : Int) < (k0 : Int) := by omega
                    have hwi : IntKind.i64.wrap ((i : Int) - 1) = (i : Int) - 1 := by rw [IntKind.wrap_i64]; omega
                    go_wp2_with (go_at_call 9; refine (Set12_good pb nb cb B k ta rp wd _ HNB.out HCB.out HMB.out HON.out HLB4.out).mono ?_; rintro e wn ⟨p9, c9, rfl, hn9, hc9, hb⟩; have HN9 := hide hn9; have HC9 := hide hc9; replace HB3 := hide (bel_next HB3.out hb); clear hn9 hc9 hb)
                    go_roundw
                    case rel => exact ⟨i, c + 1, (i : Int) - 1, p9, c9, setN B (k, ta, rp, wd), by omega, by omega, by omega, rfl, rfl, HN9, HC9, HRO2, HB3⟩
                    case measure => simp only [intOf]; omega
              · have hn1 : (0 : Int) < (k0 : Int) := by omega
                obtain ⟨x, hxv, hx0, hx1⟩ := HTX.out k2 hlt2
                obtain ⟨bt, offt, rfl, ht0⟩ := hxv
                have t0 := bcell (bel_next HB.out HB2.out) ht0
                have hL0 : ¬ ((k0 : Int) = 0) := by omega
                obtain ⟨nn, hnn, hnL⟩ : ∃ nn : Nat, x % (k0 : Int) = (nn : Int) ∧ nn < k0 := by
                  refine ⟨(x % (k0 : Int)).toNat, ?_, ?_⟩
                  · have := Int.emod_nonneg x hL0; omega
                  · have := Int.emod_nonneg x hL0
                    have := Int.emod_lt_of_pos x (show (0 : Int) < (k0 : Int) by omega)
                    omega
                have hnt : Int.tmod x (k0 : Int) = (nn : Int) := by rw [Int.tmod_eq_emod_of_nonneg hx0]; exact hnn
                clear ht0
                obtain ⟨b, off, rfl⟩ := HV.out.addr (by omega)
                obtain ⟨k, ta, rp, wd, hx, c0, c1, c2, c3⟩ := (HV.out.below (bel_next HB.out HB2.out)).at nn (by omega)
                have HX := hide hx
                clear hx
                obtain ⟨nb, hns⟩ : ∃ x, B.length = x := ⟨_, rfl⟩
                have HLnb := hide hns
                rw [hns] at HNB HCB ⊢
                clear hns
                have HON : Hid (mayNt (k, ta, rp, wd) = true) := HALL.out _ (List.mem_of_getElem? HX.out)
                have HMB : Hid (mayR12 B = true) := HRO.out.may.1
                have HLB4 : Hid (B.length < 4000) := by have h := HRO.out.may.2; unfold Hid; omega
                have HRO2 : Hid (RO s (setN B (k, ta, rp, wd)) (k2 + 1) k0) := HRO.out.any HALL.out HX.out (by omega)
                have hnn0 : (0 : Int) ≤ (nn : Int) := by omega
                have hnn1 : (nn : Int) < (k0 : Int) := by omega
                have hk20 : (0 : Int) ≤ (k2 : Int) := by omega
                go_wp2_with (go_at_call 9; refine (Set12_good pb nb cb B k ta rp wd _ HNB.out HCB.out HMB.out HON.out HLB4.out).mono ?_; rintro e wn ⟨p9, c9, rfl, hn9, hc9, hb⟩; have HN9 := hide hn9; have HC9 := hide hc9; replace HB2 := hide (bel_next HB2.out hb); clear hn9 hc9 hb)
                go_roundw
                case rel => exact ⟨k2 + 1, p9, c9, setN B (k, ta, rp, wd), by omega, by go_num, rfl, HN9, HC9, HRO2, HB2⟩
                case measure => simp [intOf]; omega
            · have hlt3 : ¬ ((k2 : Int) < (nt : Int)) := by omega
              have hwn : IntKind.i64.wrap ((k0 : Int) - 1) = (k0 : Int) - 1 := by rw [IntKind.wrap_i64]; omega
              replace HNA := hide (HNA.out.below HB2.out)
              generalize hww : wr = wB at *
              clear hww
              go_wp2
              go_loopw [6, 9] (fun V v wr => ∃ (j c : Nat) (q : Int) (pb : Option Addr) (cb : Nat) (B : List Nt), j ≤ k0 ∧ q + 1 = (j : Int) ∧ c + j ≤ 100 + k0 ∧ v = .int .i64 q ∧ V = .slice pb B.length cb ∧ Hid (NN wr pb B.length B) ∧ Hid (CP pb B.length cb) ∧ Hid (RO s B c j) ∧ Hid (Below wB.heap.size wB wr)) (fun _ v _ => (intOf v + 1).toNat)
              case atStart => exact ⟨k0, k2, (k0 : Int) - 1, pb, cb, B, by omega, by omega, by omega, (by first | rfl | (rw [hn0]; rfl)), rfl, HNB, HCB, HRO, Below.refl _ _⟩
              case round =>
                clear HNB HCB HRO
                obtain ⟨j, c, q, pb, cb, B, hj, hq, hc, rfl, rfl, HNB, HCB, HRO, HB3⟩ := hrel
                obtain ⟨nb, hns⟩ : ∃ x, B.length = x := ⟨_, rfl⟩
                have HLnb := hide hns
                rw [hns] at HNB HCB ⊢
                clear hns
                rcases j with _ | i
                · obtain rfl : q = -1 := by omega
                  have HAB : Hid (A = B) := HRO.out.meet HRF.out HLEN.out
                  have HBE := hide (bel_next (bel_next HB.out HB2.out) HB3.out)
                  have HNA3 := hide (HNA.out.below HB3.out)
                  generalize A.length = na at *
                  go_wp2_with (go_at_call 15; refine (Same12_ref ps na cs A pb nb cb B _ HNA3.out HNB.out).mono ?_; rintro e wy ⟨rfl, hb⟩; rw [decide_eq_true HAB.out]; replace HBE := hide (bel_next HBE.out hb); clear hb; refine Stop.at ?_)
                  unfold Stop
                  go_wp2_with (go_at_call 8; refine (awake12 _).mono ?_; rintro e wz ⟨rfl, hb⟩)
                  go_ret
                  exact ⟨rfl, bel_next HBE.out hb⟩
                · obtain rfl : q = (i : Int) := by omega
                  obtain ⟨b, off, rfl⟩ := HV.out.addr (by omega)
                  obtain ⟨k, ta, rp, wd, hx, c0, c1, c2, c3⟩ := (HV.out.below (bel_next (bel_next HB.out HB2.out) HB3.out)).at i (by omega)
                  have HX := hide hx
                  clear hx
                  have HON : Hid (mayNt (k, ta, rp, wd) = true) := HALL.out _ (List.mem_of_getElem? HX.out)
                  have HMB : Hid (mayR12 B = true) := HRO.out.may.1
                  have HLB4 : Hid (B.length < 4000) := by have h := HRO.out.may.2; unfold Hid; omega
                  have HRO2 : Hid (RO s (setN B (k, ta, rp, wd)) (c + 1) i) := HRO.out.back HALL.out HX.out (by omega)
                  have hi0 : (0 : Int) ≤ (i : Int) := by omega
                  have hi1 : (i : Int) < (k0 : Int) := by omega
                  have hwi : IntKind.i64.wrap ((i : Int) - 1) = (i : Int) - 1 := by rw [IntKind.wrap_i64]; omega
                  go_wp2_with (go_at_call 9; refine (Set12_good pb nb cb B k ta rp wd _ HNB.out HCB.out HMB.out HON.out HLB4.out).mono ?_; rintro e wn ⟨p9, c9, rfl, hn9, hc9, hb⟩; have HN9 := hide hn9; have HC9 := hide hc9; replace HB3 := hide (bel_next HB3.out hb); clear hn9 hc9 hb)
                  go_roundw
                  case rel => exact ⟨i, c + 1, (i : Int) - 1, p9, c9, setN B (k, ta, rp, wd), by omega, by omega, by omega, rfl, rfl, HN9, HC9, HRO2, HB3⟩
                  case measure => simp only [intOf]; omega
    · have h2 : ¬ ((nt : Int) ≤ 100) := by omega
      go_wp2_with (go_at_call 8; refine (awake12 _).mono ?_; rintro e wz ⟨rfl, hb⟩)
      go_ret
      exact ⟨rfl, bel_next BB.out hb⟩

/-! ### The row's step -/
set_option maxRecDepth 100000 in
theorem lifted (os : Os) (started : os.Started) (H : Type) (enc : TypeId × Value → H) :
    ReturnsInHanded {} Try.checked os 5 .any (Rows.registerOrdersSpec.pre6 enc Try.prog Try.f5 Rows.registerOrdersRow.domain false) (Rows.registerOrdersSpec.post enc Try.prog Try.f5 false true false false) := by
  refine returnsInHanded_of_change_sized (C := Try.checked) own started (by kernel_rfl) Try.func5
    (ChangeSpec.witness6 (enc := enc) (C := Try.checked) false ⟨#[], #[.slice none 0 0, .slice none 0 0], []⟩ 8 (by kernel_rfl) (by kernel_rfl) (by kernel_rfl) (by kernel_rfl)) ?_
  intro W base args ds gs before hval0 hW hcnd hz0 _
  have hval : ∀ (j : Nat) t v, Try.f5.params[j]? = some t → args[j]? = some v → Value.okWide Try.prog W .any base t v := hval0
  have hz : (DataW.weightsEach Try.prog (Try.f5.params.toList ++ Rows.registerOrdersSpec.plain.varTypes Try.prog) (ds ++ gs)).all (· ≤ reachBytes) = true := hz0
  have hW' := hW
  obtain ⟨p, q, hA0, hV, rfl, hfz, hnd⟩ := hW
  have hA : DataW.TrodAll enc Try.prog W 0 (fun _ => true) true Try.f5.params.toList args.toList ds p := hA0
  rw [Try.params5] at hA hval hz
  obtain ⟨v0, vs0, d0, ds0, p0, q0, hargs, rfl, rfl, h0, r0⟩ := trodAll_cons hA
  obtain ⟨v1, vs1, d1, ds1, p1, q1, rfl, rfl, rfl, h1, r1⟩ := trodAll_cons r0
  obtain ⟨rfl, rfl, rfl⟩ := trodAll_nil r1
  obtain rfl : args = #[v0, v1] := by cases args; simp_all
  obtain ⟨rfl, rfl⟩ := trodVars_none hV
  have k0 := h0
  have lt0 : ∀ x ∈ p0, x.block < W.heap.size := by obtain ⟨m, hm⟩ := k0; exact DataW.trod_lt m _ _ _ hm
  have w0 : InNn W v0 := in_notes (hval 0 22 v0 rfl rfl) h0 (fun n hn => by have := List.all_eq_true.1 hz n (DataW.weights_mem_each (j := 0) (t := 22) rfl rfl n hn); simpa using this)
  have k1 := h1
  have lt1 : ∀ x ∈ p1, x.block < W.heap.size := by obtain ⟨m, hm⟩ := k1; exact DataW.trod_lt m _ _ _ hm
  have w1 : InU W v1 := in_u8s (hval 1 42 v1 rfl rfl) h1 (fun n hn => by have := List.all_eq_true.1 hz n (DataW.weights_mem_each (j := 1) (t := 42) rfl rfl n hn); simpa using this)
  clear hA0 hval0 hz0
  refine (walk v0 v1 W w0 w1).mono fun e W' ⟨he, bel⟩ => ?_
  subst he
  exact ⟨_, rfl, _, _, _, [], _, [], hW', trodAll_mk1 (shut_bool Try.underlying4 _), (trodAll_cons_mk (Below.trod laidOut (by kernel_rfl) (of_decide_eq_true (by kernel_rfl)) k0 bel lt0) (trodAll_cons_mk (Below.trod laidOut (by kernel_rfl) (of_decide_eq_true (by kernel_rfl)) k1 bel lt1) trodAll_mk0)), rfl, bel.frame _, fun h => by cases h⟩

theorem over : Rows.registerOrdersRow.holds Try.pinned (OpenSpec.ofChange Rows.registerOrdersSpec) :=
  OpenClaim.holds_of_wide 5 Try.f5 rfl rfl rfl rfl rfl rfl rfl ⟨rfl, rfl, rfl, rfl, rfl⟩ rfl rfl rfl rfl rfl (by kernel_rfl) Try.func5 (by kernel_rfl)
    (of_decide_eq_true (by kernel_rfl)) (by unfold Func.isWrapper; first | (rw [if_pos (by decide +kernel)]; kernel_rfl) | (rw [if_neg (by decide +kernel)]; exact ⟨rfl, rfl⟩))
    (fun os started H enc _ => lifted os started H enc)
end Go.Proofs.Ytohkopjacpendaa.registerOrders
namespace Go.Proofs.Ytohkopjacpendaa
theorem registerOrders_holds : Rows.RegisterOrdersSaid := registerOrders.over
end Go.Proofs.Ytohkopjacpendaa
