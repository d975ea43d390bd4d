/- EventOne is true for every bytes: bytes of which 'Get' gives an event are just those that 'Put' gives of it; others are told ErrText. No condition. -/
import Derived.Test.YtooggheoaglbeaaRows
import Derived.WalkKit
import Derived.ProofKit
import Derived.OpenShut
import Derived.ShutString
import Derived.ChangeOld
import Derived.Below
import Derived.SizedLaws
import Derived.Test.YtooggheoaglbeaaJ2
import Derived.Test.YtooggheoaglbeaaJ6
import Derived.Test.YtooggheoaglbeaaJ7
import Derived.Test.YtooggheoaglbeaaJ5

namespace Go.Proofs.Ytooggheoaglbeaa.eventOne
open Go.ChangeShapes Go.WideShapes Go.ChangeAt Go.RowKit
set_option linter.unusedVariables false

theorem own : ownKnob Try.prog.godebug = none := by kernel_rfl
theorem laidOut : laidOutB Try.prog = true := by kernel_rfl

set_option maxHeartbeats 4000000 in
set_option maxRecDepth 100000 in
theorem walk (v0 : Value) (w : World) (w0 : InB w v0) :
    Calls Try.prog 7 #[v0] w fun e w' => e = .returned (.bool true) ∧ Below w.heap.size w w' := by
  obtain ⟨a, n, cap, l, rfl, hB, hC, hbig⟩ := w0
  have HB := hide hB
  have HC := hide hC
  have Hl := hide hB.1
  have hby : Hid (By l) := hB.2.2.1
  clear hB hC hbig
  by_cases h1 : (n : Int) > 3000
  · have HA := hide (awake5 w)
    go_enter Try.func7, Try.ntmps7
    go_wp2_with (go_at_call 9; refine HA.out.mono ?_; rintro e w' ⟨rfl, hb⟩)
    go_ret
    exact ⟨rfl, hb⟩
  · go_enter Try.func7, Try.ntmps7
    go_wp2_with (at_builtin; refine Stop.at ?_)
    unfold Stop
    refine append_bytes rfl _ _ rfl w.heap.size _ [] l rfl (Own.made w w.heap.size _ rfl (Nat.le_refl _)) a n cap rfl HC.out.2.2 (HB.out.alloc _) (by have := Hl.out; simp; omega) (by simp) ?_
    intro v1 w1 q1 _ q3
    obtain ⟨p1, c1, hv, hb1, hc1⟩ := q1.open (show By ([] ++ l) from hby.out)
    subst hv
    have HG := hide (GetE_any p1 _ c1 l w1 (by simpa using hb1) (by simpa using hc1))
    have HB1 := hide (q3 w (bel1 w _))
    clear q1 q3 hb1 hc1
    simp only [List.nil_append] at HG ⊢
    obtain ⟨m, hm⟩ : ∃ m, l.length = m := ⟨_, rfl⟩
    rw [hm] at HG ⊢
    clear hm
    go_wp2_with (go_at_call 17; refine Stop.at ?_)
    unfold Stop
    refine HG.out.mono ?_
    rintro e w2 ⟨(⟨hg, rfl⟩ | ⟨x, y, pa, na, ca, pe, ne, ce, c, fs, hg, rfl, hns, hca, hes, hce⟩), hb⟩
    · have HB2 := hide (bel_next (bel_next HB1.out hb) (bel1 w2 (bxE 0 0 none 0 0 none 0 0)))
      have HA := hide (fun W => awake5 W)
      clear hb hg HG
      go_wp2_with (go_at_call 9; refine (HA.out _).mono ?_; rintro e w' ⟨rfl, hb⟩)
      go_ret
      exact ⟨rfl, bel_next HB2.out hb⟩
    · obtain ⟨hmay, hput, _⟩ := rdE_some hby.out hg
      have HP := hide (PutE_any x y pa na ca pe ne ce c fs (w2.alloc (bxE x y pa na ca pe ne ce)) (hns.alloc _) (hes.alloc _) hmay)
      rw [hput] at HP
      have c0 : (w2.alloc (bxE x y pa na ca pe ne ce)).cell? ⟨w2.heap.size, 0, none⟩ = some (.int .i64 x) := cell_new w2 _ _ _ rfl 0 _ rfl
      have c1' : (w2.alloc (bxE x y pa na ca pe ne ce)).cell? ⟨w2.heap.size, 1, none⟩ = some (.int .i64 y) := cell_new w2 _ _ _ rfl 1 _ rfl
      have c2 : (w2.alloc (bxE x y pa na ca pe ne ce)).cell? ⟨w2.heap.size, 2, none⟩ = some (.slice pa na ca) := cell_new w2 _ _ _ rfl 2 _ rfl
      have c3 : (w2.alloc (bxE x y pa na ca pe ne ce)).cell? ⟨w2.heap.size, 3, none⟩ = some (.slice pe ne ce) := cell_new w2 _ _ _ rfl 3 _ rfl
      have HB2 := hide (bel_next (bel_next HB1.out hb) (bel1 w2 (bxE x y pa na ca pe ne ce)))
      clear hb hg HG hns hca hes hce hmay hput
      go_wp2_with (go_at_call 12; refine Stop.at ?_)
      unfold Stop
      refine HP.out.mono ?_
      rintro e w3 ⟨v3, rfl, hO, hb⟩
      have HB3 := hide (bel_next HB2.out hb)
      obtain ⟨p3, c3', hv, hb3, hc3⟩ := hO.open hby.out
      subst hv
      have HEQ := hide (bytes_as a p3 n cap l.length c3' l l w3 true (by simp) (HB.out.below HB3.out) hb3)
      clear hb hO hb3 hc3 HP c0 c1' c2 c3
      have HA := hide (fun W => awake5 W)
      go_wp2_with (first
        | (go_at_call 18; refine HEQ.out.mono ?_; rintro e w4 ⟨rfl, hb⟩; have HB4 := hide (bel_next HB3.out hb); clear hb)
        | (go_at_call 9; refine (HA.out _).mono ?_; rintro e w5 ⟨rfl, hb⟩))
      go_ret
      exact ⟨rfl, bel_next HB4.out hb⟩

/-! ### The row's step -/
set_option maxRecDepth 100000 in
theorem lifted (os : Os) (started : os.Started) (H : Type) (enc : TypeId × Value → H) :
    ReturnsInHanded {} Try.checked os 7 .any (Rows.eventOneSpec.pre6 enc Try.prog Try.f7 Rows.eventOneRow.domain false) (Rows.eventOneSpec.post enc Try.prog Try.f7 false true false false) := by
  refine returnsInHanded_of_change_sized (C := Try.checked) own started (by kernel_rfl) Try.func7
    (ChangeSpec.witness6 (enc := enc) (C := Try.checked) false ⟨#[], #[.slice none 0 0], []⟩ 8 (by kernel_rfl) (by kernel_rfl) (by kernel_rfl) (by kernel_rfl)) ?_
  intro W base args ds gs before hval0 hW hcnd hz0 _
  have hval : ∀ (j : Nat) t v, Try.f7.params[j]? = some t → args[j]? = some v → Value.okWide Try.prog W .any base t v := hval0
  have hz : (DataW.weightsEach Try.prog (Try.f7.params.toList ++ Rows.eventOneSpec.plain.varTypes Try.prog) (ds ++ gs)).all (· ≤ reachBytes) = true := hz0
  have hW' := hW
  obtain ⟨p, q, hA0, hV, rfl, hfz, hnd⟩ := hW
  have hA : DataW.TrodAll enc Try.prog W 0 (fun _ => true) true Try.f7.params.toList args.toList ds p := hA0
  rw [Try.params7] at hA hval hz
  obtain ⟨v0, vs0, d0, ds0, p0, q0, hargs, rfl, rfl, h0, r0⟩ := trodAll_cons hA
  obtain ⟨rfl, rfl, rfl⟩ := trodAll_nil r0
  obtain rfl : args = #[v0] := by cases args; simp_all
  obtain ⟨rfl, rfl⟩ := trodVars_none hV
  have k0 := h0
  have lt0 : ∀ x ∈ p0, x.block < W.heap.size := by obtain ⟨m, hm⟩ := k0; exact DataW.trod_lt m _ _ _ hm
  have w0 : InB W v0 := in_bytes (hval 0 37 v0 rfl rfl) h0 (fun n hn => by have := List.all_eq_true.1 hz n (DataW.weights_mem_each (j := 0) (t := 37) rfl rfl n hn); simpa using this)
  clear hA0 hval0 hz0
  refine (walk v0 W w0).mono fun e W' ⟨he, bel⟩ => ?_
  subst he
  exact ⟨_, rfl, _, _, _, [], _, [], hW', trodAll_mk1 (shut_bool Try.underlying4 _), (trodAll_cons_mk (Below.trod laidOut (by kernel_rfl) (of_decide_eq_true (by kernel_rfl)) k0 bel lt0) trodAll_mk0), rfl, bel.frame _, fun h => by cases h⟩

theorem over : Rows.eventOneRow.holds Try.pinned (OpenSpec.ofChange Rows.eventOneSpec) :=
  OpenClaim.holds_of_wide 7 Try.f7 rfl rfl rfl rfl rfl rfl rfl ⟨rfl, rfl, rfl, rfl, rfl⟩ rfl rfl rfl rfl rfl (by kernel_rfl) Try.func7 (by kernel_rfl)
    (of_decide_eq_true (by kernel_rfl)) (by unfold Func.isWrapper; first | (rw [if_pos (by decide +kernel)]; kernel_rfl) | (rw [if_neg (by decide +kernel)]; exact ⟨rfl, rfl⟩))
    (fun os started H enc _ => lifted os started H enc)
end Go.Proofs.Ytooggheoaglbeaa.eventOne
namespace Go.Proofs.Ytooggheoaglbeaa
theorem eventOne_holds : Rows.EventOneSaid := eventOne.over
end Go.Proofs.Ytooggheoaglbeaa

