/- EventGets is true for every bytes: 'Get' answers as the document's answer does: the same event with OK, or ErrText. No condition. -/
import Derived.Test.YtooggheoaglbeaaRows
import Derived.WalkKit
import Derived.ProofKit
import Derived.OpenShut
import Derived.ShutString
import Derived.ChangeOld
import Derived.Below
import Derived.SizedLaws
import Derived.Test.YtooggheoaglbeaaJ2
import Derived.Test.YtooggheoaglbeaaJ6
import Derived.Test.YtooggheoaglbeaaJ8
import Derived.Test.YtooggheoaglbeaaJ5
import Derived.Test.YtooggheoaglbeaaJ11

namespace Go.Proofs.Ytooggheoaglbeaa.eventGets
open Go.ChangeShapes Go.WideShapes Go.ChangeAt Go.RowKit
set_option linter.unusedVariables false

theorem own : ownKnob Try.prog.godebug = none := by kernel_rfl
theorem laidOut : laidOutB Try.prog = true := by kernel_rfl

theorem bxe_cells (W : World) (x y : Int) (pa : Option Addr) (na ca : Nat) (pe : Option Addr) (ne ce : Nat) : BX (W.alloc (bxE x y pa na ca pe ne ce)) W.heap.size #[.int .i64 x, .int .i64 y, .slice pa na ca, .slice pe ne ce] 28 := BX.new W _ rfl _ _
set_option maxHeartbeats 4000000 in
set_option maxRecDepth 100000 in
theorem walk (v0 : Value) (w : World) (w0 : InB w v0) :
    Calls Try.prog 4 #[v0] w fun e w' => e = .returned (.bool true) ∧ Below w.heap.size w w' := by
  obtain ⟨a, n, cap, l, rfl, hB, hC, hbig⟩ := w0
  have HB := hide hB
  have HC := hide hC
  have Hl := hide hB.1
  have hby : Hid (By l) := hB.2.2.1
  have HRR := hide (rf_rdE hby.out)
  clear hB hC hbig
  by_cases h1 : (n : Int) > 3000
  · have HA := hide (awake5 w)
    go_enter Try.func4, Try.ntmps4
    go_wp2_with (go_at_call 9; refine HA.out.mono ?_; rintro e w' ⟨rfl, hb⟩)
    go_ret
    exact ⟨rfl, hb⟩
  · go_enter Try.func4, Try.ntmps4
    go_wp2_with (at_builtin; refine Stop.at ?_)
    unfold Stop
    refine append_bytes rfl _ _ rfl w.heap.size _ [] l rfl (Own.made w w.heap.size _ rfl (Nat.le_refl _)) a n cap rfl HC.out.2.2 (HB.out.alloc _) (by have := Hl.out; simp; omega) (by simp) ?_
    intro v1 w1 q1 _ q3
    obtain ⟨p1, c1, hv, hb1, hc1⟩ := q1.open (show By ([] ++ l) from hby.out)
    subst hv
    have HG := hide (GetE_any p1 _ c1 l w1 (by simpa using hb1) (by simpa using hc1))
    have HB1 := hide (q3 w (bel1 w _))
    clear q1 q3 hb1 hc1
    simp only [List.nil_append] at HG ⊢
    obtain ⟨m, hm⟩ : ∃ m, l.length = m := ⟨_, rfl⟩
    rw [hm] at HG ⊢
    clear hm
    go_wp2_with (go_at_call 17; refine Stop.at ?_)
    unfold Stop
    refine HG.out.mono ?_
    have HAW := hide (fun W => awake5 W)
    have HGR := hide (fun W (hb : BS W a n l) => GetR_any a n cap l W hb HC.out)
    rintro e w2 ⟨(⟨hg, rfl⟩ | ⟨x, y, pa, na, ca, pe, ne, ce, c, fs, hg, rfl, hns, hca, hes, hce⟩), hb⟩
    · have X2 := hide (bxe_cells w2 0 0 none 0 0 none 0 0)
      have HB2 := hide (bel_next (bel_next HB1.out hb) (bel1 w2 (bxE 0 0 none 0 0 none 0 0)))
      have HN : Hid (rfE l = none) := by unfold Hid; rw [HRR.out]; exact hg
      clear hb hg HG
      go_wp2_with (go_at_call 20; refine Stop.at ?_)
      unfold Stop
      refine (HGR.out _ (HB.out.below HB2.out)).mono ?_
      rintro e w3 ⟨(⟨hg, rfl⟩ | ⟨x, y, pa, na, ca, pe, ne, ce, c, fs, hg, _⟩), hb⟩
      · have X3 := hide ((X2.out.below hb).alloc (bxE 0 0 none 0 0 none 0 0))
        have Y3 := hide (bxe_cells w3 0 0 none 0 0 none 0 0)
        have HB3 := hide (bel_next (bel_next HB2.out hb) (bel1 w3 (bxE 0 0 none 0 0 none 0 0)))
        have HS := hide (fun W => SameR_evt 0 0 none 0 0 none 0 0 0 0 none 0 0 none 0 0 [] [] [] [] W (NS.nil _ _) (NS.nil _ _) (ES.nil _ _) (ES.nil _ _))
        rw [sameB_self] at HS
        have e0 := X3.out.cell 0 _ rfl
        have e1 := X3.out.cell 1 _ rfl
        have e2 := X3.out.cell 2 _ rfl
        have e3 := X3.out.cell 3 _ rfl
        have f0 := Y3.out.cell 0 _ rfl
        have f1 := Y3.out.cell 1 _ rfl
        have f2 := Y3.out.cell 2 _ rfl
        have f3 := Y3.out.cell 3 _ rfl
        clear hb hg
        go_wp2_with (first
          | (go_at_call 14; refine (HS.out _).mono ?_; rintro e w4 ⟨rfl, hb⟩; have HB4 := hide (bel_next HB3.out hb); clear hb)
          | (go_at_call 9; refine (HAW.out _).mono ?_; rintro e w5 ⟨rfl, hb⟩))
        go_ret
        exact ⟨rfl, bel_next HB4.out hb⟩
      · rw [HN.out] at hg
        cases hg
    · have X2 := hide (bxe_cells w2 x y pa na ca pe ne ce)
      have HB2 := hide (bel_next (bel_next HB1.out hb) (bel1 w2 (bxE x y pa na ca pe ne ce)))
      have N2 := hide (hns.alloc (bxE x y pa na ca pe ne ce))
      have E2 := hide (hes.alloc (bxE x y pa na ca pe ne ce))
      have HN : Hid (rfE l = some ((x, y), c, fs)) := by unfold Hid; rw [HRR.out]; exact hg
      clear hb hg HG hns hes hca hce
      go_wp2_with (go_at_call 20; refine Stop.at ?_)
      unfold Stop
      refine (HGR.out _ (HB.out.below HB2.out)).mono ?_
      rintro e w3 ⟨(⟨hg, _⟩ | ⟨x', y', pb, nb, cb, pf, nf, cf, c', fs', hg, rfl, hns, hca, hes, hce⟩), hb⟩
      · rw [HN.out] at hg
        cases hg
      · rw [HN.out] at hg
        simp only [Option.some.injEq, Prod.mk.injEq] at hg
        obtain ⟨⟨rfl, rfl⟩, rfl, rfl⟩ := hg
        have X3 := hide ((X2.out.below hb).alloc (bxE x y pb nb cb pf nf cf))
        have Y3 := hide (bxe_cells w3 x y pb nb cb pf nf cf)
        have HB3 := hide (bel_next (bel_next HB2.out hb) (bel1 w3 (bxE x y pb nb cb pf nf cf)))
        have HS := hide (SameR_evt x y pa na ca pe ne ce x y pb nb cb pf nf cf c c fs fs (w3.alloc (bxE x y pb nb cb pf nf cf)) ((N2.out.below hb).alloc _) (hns.alloc _) ((E2.out.below hb).alloc _) (hes.alloc _))
        rw [sameB_self] at HS
        have e0 := X3.out.cell 0 _ rfl
        have e1 := X3.out.cell 1 _ rfl
        have e2 := X3.out.cell 2 _ rfl
        have e3 := X3.out.cell 3 _ rfl
        have f0 := Y3.out.cell 0 _ rfl
        have f1 := Y3.out.cell 1 _ rfl
        have f2 := Y3.out.cell 2 _ rfl
        have f3 := Y3.out.cell 3 _ rfl
        clear hb hns hes hca hce
        go_wp2_with (first
          | (go_at_call 14; refine HS.out.mono ?_; rintro e w4 ⟨rfl, hb⟩; have HB4 := hide (bel_next HB3.out hb); clear hb)
          | (go_at_call 9; refine (HAW.out _).mono ?_; rintro e w5 ⟨rfl, hb⟩))
        go_ret
        exact ⟨rfl, bel_next HB4.out hb⟩

/-! ### The row's step -/
set_option maxRecDepth 100000 in
theorem lifted (os : Os) (started : os.Started) (H : Type) (enc : TypeId × Value → H) :
    ReturnsInHanded {} Try.checked os 4 .any (Rows.eventGetsSpec.pre6 enc Try.prog Try.f4 Rows.eventGetsRow.domain false) (Rows.eventGetsSpec.post enc Try.prog Try.f4 false true false false) := by
  refine returnsInHanded_of_change_sized (C := Try.checked) own started (by kernel_rfl) Try.func4
    (ChangeSpec.witness6 (enc := enc) (C := Try.checked) false ⟨#[], #[.slice none 0 0], []⟩ 8 (by kernel_rfl) (by kernel_rfl) (by kernel_rfl) (by kernel_rfl)) ?_
  intro W base args ds gs before hval0 hW hcnd hz0 _
  have hval : ∀ (j : Nat) t v, Try.f4.params[j]? = some t → args[j]? = some v → Value.okWide Try.prog W .any base t v := hval0
  have hz : (DataW.weightsEach Try.prog (Try.f4.params.toList ++ Rows.eventGetsSpec.plain.varTypes Try.prog) (ds ++ gs)).all (· ≤ reachBytes) = true := hz0
  have hW' := hW
  obtain ⟨p, q, hA0, hV, rfl, hfz, hnd⟩ := hW
  have hA : DataW.TrodAll enc Try.prog W 0 (fun _ => true) true Try.f4.params.toList args.toList ds p := hA0
  rw [Try.params4] at hA hval hz
  obtain ⟨v0, vs0, d0, ds0, p0, q0, hargs, rfl, rfl, h0, r0⟩ := trodAll_cons hA
  obtain ⟨rfl, rfl, rfl⟩ := trodAll_nil r0
  obtain rfl : args = #[v0] := by cases args; simp_all
  obtain ⟨rfl, rfl⟩ := trodVars_none hV
  have k0 := h0
  have lt0 : ∀ x ∈ p0, x.block < W.heap.size := by obtain ⟨m, hm⟩ := k0; exact DataW.trod_lt m _ _ _ hm
  have w0 : InB W v0 := in_bytes (hval 0 37 v0 rfl rfl) h0 (fun n hn => by have := List.all_eq_true.1 hz n (DataW.weights_mem_each (j := 0) (t := 37) rfl rfl n hn); simpa using this)
  clear hA0 hval0 hz0
  refine (walk v0 W w0).mono fun e W' ⟨he, bel⟩ => ?_
  subst he
  exact ⟨_, rfl, _, _, _, [], _, [], hW', trodAll_mk1 (shut_bool Try.underlying4 _), (trodAll_cons_mk (Below.trod laidOut (by kernel_rfl) (of_decide_eq_true (by kernel_rfl)) k0 bel lt0) trodAll_mk0), rfl, bel.frame _, fun h => by cases h⟩

theorem over : Rows.eventGetsRow.holds Try.pinned (OpenSpec.ofChange Rows.eventGetsSpec) :=
  OpenClaim.holds_of_wide 4 Try.f4 rfl rfl rfl rfl rfl rfl rfl ⟨rfl, rfl, rfl, rfl, rfl⟩ rfl rfl rfl rfl rfl (by kernel_rfl) Try.func4 (by kernel_rfl)
    (of_decide_eq_true (by kernel_rfl)) (by unfold Func.isWrapper; first | (rw [if_pos (by decide +kernel)]; kernel_rfl) | (rw [if_neg (by decide +kernel)]; exact ⟨rfl, rfl⟩))
    (fun os started H enc _ => lifted os started H enc)
end Go.Proofs.Ytooggheoaglbeaa.eventGets
namespace Go.Proofs.Ytooggheoaglbeaa
theorem eventGets_holds : Rows.EventGetsSaid := eventGets.over
end Go.Proofs.Ytooggheoaglbeaa

