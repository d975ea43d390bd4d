/- For every bytes and every two numbers: the statement 'SumParts' returns true, and its arguments read behind the call as they read before. No condition. -/
import Derived.Test.YtedifnkafoepkaaRows
import Derived.WalkKit
import Derived.ProofKit
import Derived.OpenShut
import Derived.ShutString
import Derived.ChangeOld
import Derived.Below
import Derived.Test.YtedifnkafoepkaaCut
import Derived.Deep.RegionWith
import Derived.Deep.RegionHeld3
namespace Go.Proofs.Ytedifnkafoepkaa.sumParts
open Go.ChangeShapes Go.WideShapes Go.ChangeAt Go.RowKit
open Go.ChangeMaps (open_string shut_string)
set_option linter.unusedVariables false

theorem own : ownKnob Try.prog.godebug = none := by kernel_rfl
theorem laidOut : laidOutB Try.prog = true := by kernel_rfl

/-! ### The walk -/
set_option maxHeartbeats 1600000 in
set_option maxRecDepth 100000 in
theorem walk (a0 : Option Addr) (len0 cap0 : Nat) (z0 : List Int) (a1 : Int) (a2 : Int) (w : World) (w0 : IsRow .u8 w a0 len0 cap0 z0) (w1 : (Lit.int .u16 a1).wf = true) (w2 : (Lit.int .u16 a2).wf = true) :
    Calls Try.prog 4 #[.slice a0 len0 cap0, .int .u16 a1, .int .u16 a2] w fun e w' => e = .returned (.bool true) ∧ Below w.heap.size w w' := by
  obtain ⟨l, hBS⟩ := w0.bs
  have HB := hide hBS
  clear hBS
  have hx : 0 ≤ a1 ∧ a1 < 65536 := by simp [Lit.wf, IntKind.min, IntKind.max, IntKind.bits, IntKind.signed] at w1; omega
  have hy : 0 ≤ a2 ∧ a2 < 65536 := by simp [Lit.wf, IntKind.min, IntKind.max, IntKind.bits, IntKind.signed] at w2; omega
  obtain ⟨hx0, hx1⟩ := hx
  obtain ⟨hy0, hy1⟩ := hy
  clear w1 w2
  by_cases h15 : 1500 < len0
  · clear w0
    go_enter Try.func4, Try.ntmps4
    go_wp2_with fail
    refine (awake_any w).mono ?_
    rintro e w' ⟨rfl, hb⟩
    have Hb := hide hb
    clear hb
    go_wp2
    go_ret
    exact ⟨rfl, Hb.out⟩
  · obtain ⟨i, hI⟩ : ∃ i : Nat, a1 % ((len0 : Int) + 1) = (i : Int) := ⟨(a1 % ((len0 : Int) + 1)).toNat, (Int.toNat_of_nonneg (Int.emod_nonneg _ (by omega))).symm⟩
    have hi1 : (i : Int) < (len0 : Int) + 1 := by rw [← hI]; exact Int.emod_lt_of_pos _ (by omega)
    obtain ⟨j, hJ⟩ : ∃ j : Nat, a2 % ((len0 : Int) + 1 - (i : Int)) = (j : Int) := ⟨(a2 % ((len0 : Int) + 1 - (i : Int))).toNat, (Int.toNat_of_nonneg (Int.emod_nonneg _ (by omega))).symm⟩
    have hj1 : (j : Int) < (len0 : Int) + 1 - (i : Int) := by rw [← hJ]; exact Int.emod_lt_of_pos _ (by omega)
    obtain ⟨k, hK⟩ : ∃ k : Nat, (i : Int) + (j : Int) = (k : Int) := ⟨i + j, by omega⟩
    have hcap : (len0 : Int) ≤ (cap0 : Int) := by
      rcases w0 with ⟨rfl, rfl, rfl, rfl⟩ | ⟨x, rfl, hl, _⟩
      · omega
      · omega
    have hc1 : (i : Int) ≤ (cap0 : Int) := by omega
    have hc2 : (k : Int) ≤ (cap0 : Int) := by omega
    have hc3 : (k : Int) ≤ (len0 : Int) := by omega
    have hc4 : (i : Int) ≤ (k : Int) := by omega
    clear w0
    have hP3 := hide (three_ps w a0 len0 cap0 l HB.out i k (by omega) (by omega) (by omega)).drew
    have hsl : ∀ i : Nat, (if cap0 = i then a0 else Option.map (fun x => x.add i) a0) = slA a0 cap0 i := fun _ => rfl
    go_enter Try.func4, Try.ntmps4
    go_wp2_with fail
    rw [hI, hJ]
    clear hI hJ
    go_region_with (go_at_call 8; refine (of_as _ _ _ _ _ (of [l]) (of_three l i k (by omega)) (by exact hP3.out)).mono ?_; rintro e w' ⟨rfl, rfl⟩)
    go_wp2_with fail
    obtain ⟨W1, hW1⟩ : ∃ W1, W1 = (w.alloc (.cells #[.slice a0 i cap0, .slice (slA a0 cap0 i) (k - i) (cap0 - i), .slice (slA a0 cap0 k) (len0 - k) (cap0 - k)] 23)).drew := ⟨_, rfl⟩
    rw [← hW1]
    have HB1 : Hid (BS W1 a0 len0 l) := by rw [hW1]; exact HB.out.ext (((Ext.refl w).alloc _).drew)
    have Hbel : Hid (Below w.heap.size w W1) := by rw [hW1]; exact ((Below.refl _ _).alloc (Nat.le_refl _) _).drew
    clear hW1 hP3 HB
    have hQ1 := hide (one_ps W1 a0 len0 cap0 l HB1.out).drew
    have hQ2 := hide (one_ps' W1 a0 len0 cap0 l HB1.out k (by omega)).drew
    have hQ3 := hide (two_bs W1 a0 len0 cap0 l HB1.out k (by omega) (by omega)).drew
    go_region_held3 (fun _ => True) (trivial) (first
      | (go_at_call_of 8 (some (⟨W1.heap.size, 0, none⟩ : Addr)); refine (of_as _ _ _ [l] _ (of [l]) rfl (by exact hQ1.out)).mono ?_; rintro e w' ⟨rfl, rfl⟩)
      | (go_at_call 10; refine (on_as _ _ _ _ (l.drop k) _ (of [l]) (on_of l k) (by exact hQ3.out)).mono ?_; rintro e w' ⟨rfl, rfl⟩)
      | (go_at_call_of 8 (Option.none (α := Addr)); refine (of_as _ _ _ [] _ 0 rfl (PS.none _)).mono ?_; rintro e w' ⟨rfl, rfl⟩)
      | (go_at_call 8; refine (of_as _ _ _ [l.take k] _ (of [l.take k]) rfl (by exact hQ2.out)).mono ?_; rintro e w' ⟨rfl, rfl⟩)
      | (go_at_call 7; refine (awake_any _).mono ?_; rintro e w' ⟨rfl, hb⟩))
    go_wp2
    go_ret
    have z := Hbel.out.size
    refine ⟨rfl, ?_⟩
    refine ((((Hbel.out).alloc z (.cells #[.slice a0 len0 cap0] 23)).alloc ?_ (.cells #[.slice a0 k cap0] 23)).drew).trans (hb.mono ?_)
    · simp; omega
    · simp only [World.size_drew, World.size_alloc]; omega

/-! ### THE ROW's STEP: -/
set_option maxRecDepth 100000 in
theorem lifted (os : Os) (started : os.Started) (H : Type) (enc : TypeId × Value → H) :
    ReturnsInHanded {} Try.checked os 4 .any (Rows.sumPartsSpec.pre6 enc Try.prog Try.f4 Rows.sumPartsRow.domain false) (Rows.sumPartsSpec.post enc Try.prog Try.f4 false true false false) := by
  refine returnsInHanded_of_change (C := Try.checked) own started (by kernel_rfl) Try.func4
    (ChangeSpec.witness6 (enc := enc) (C := Try.checked) false ⟨#[], #[.slice none 0 0, .int .u16 0, .int .u16 0], []⟩ 8 (by kernel_rfl) (by kernel_rfl) (by kernel_rfl) (by kernel_rfl)) ?_
  intro W base args ds gs before hval0 hW hcnd _
  have hval : ∀ (j : Nat) t v, Try.f4.params[j]? = some t → args[j]? = some v → Value.okWide Try.prog W .any base t v := hval0
  have hW' := hW
  obtain ⟨p, q, hA0, hV, rfl, hfz, hnd⟩ := hW
  have hA : DataW.TrodAll enc Try.prog W 0 (fun _ => true) true Try.f4.params.toList args.toList ds p := hA0
  rw [Try.params4] at hA hval
  obtain ⟨v0, vs0, d0, ds0, p0, q0, hargs, rfl, rfl, h0, r0⟩ := trodAll_cons hA
  obtain ⟨v1, vs1, d1, ds1, p1, q1, rfl, rfl, rfl, h1, r1⟩ := trodAll_cons r0
  obtain ⟨v2, vs2, d2, ds2, p2, q2, rfl, rfl, rfl, h2, r2⟩ := trodAll_cons r1
  obtain ⟨rfl, rfl, rfl⟩ := trodAll_nil r2
  obtain rfl : args = #[v0, v1, v2] := by cases args; simp_all
  obtain ⟨rfl, rfl⟩ := trodVars_none hV
  obtain ⟨a0, len0, cap0, rfl⟩ := okWide_slice Try.underlying23 (hval 0 23 v0 rfl rfl)
  have k0 := h0
  have lt0 : ∀ x ∈ p0, x.block < W.heap.size := by obtain ⟨m, hm⟩ := k0; exact DataW.trod_lt m _ _ _ hm
  obtain ⟨z0, w0⟩ : ∃ zs, IsRow .u8 W a0 len0 cap0 zs := by
    obtain ⟨fuel, hf⟩ := h0
    rcases open_ints Try.underlying23 Try.underlying5 (by kernel_rfl) hf with ⟨hcs, _⟩ | ⟨x, l, c, zs, hcs, _, hl, hm, hz, _, hcell, hwz⟩
    · simp [Value.cells] at hcs
      obtain ⟨rfl, rfl, rfl⟩ := hcs
      exact ⟨[], .inl ⟨rfl, rfl, rfl, rfl⟩⟩
    · simp [Value.cells] at hcs
      obtain ⟨rfl, rfl, rfl⟩ := hcs
      exact ⟨zs, .inr ⟨_, rfl, hl, hm, by simpa using hz, hcell, hwz⟩⟩
  obtain ⟨a1, rfl, rfl, rfl, w1⟩ := open_int Try.underlying29 (hval 1 29 v1 rfl rfl) h1
  obtain ⟨a2, rfl, rfl, rfl, w2⟩ := open_int Try.underlying29 (hval 2 29 v2 rfl rfl) h2
  clear hA0 hval0
  refine (walk a0 len0 cap0 z0 a1 a2 W w0 w1 w2).mono fun e W' ⟨he, bel⟩ => ?_
  subst he
  exact ⟨_, rfl, _, _, _, [], _, [], hW', trodAll_mk1 (shut_bool Try.underlying4 _), (trodAll_cons_mk (Below.trod laidOut (by kernel_rfl) (of_decide_eq_true (by kernel_rfl)) k0 bel lt0) (trodAll_cons_mk (shut_int Try.underlying29 w1) (trodAll_cons_mk (shut_int Try.underlying29 w2) trodAll_mk0))), rfl, bel.frame _, fun h => by cases h⟩

theorem over : Rows.sumPartsRow.holds Try.pinned (OpenSpec.ofChange Rows.sumPartsSpec) :=
  OpenClaim.holds_of_wide 4 Try.f4 rfl rfl rfl rfl rfl rfl rfl ⟨rfl, rfl, rfl, rfl, rfl⟩ rfl rfl rfl rfl rfl (by kernel_rfl) Try.func4 (by kernel_rfl)
    (of_decide_eq_true (by kernel_rfl)) (by unfold Func.isWrapper; first | (rw [if_pos (by decide +kernel)]; kernel_rfl) | (rw [if_neg (by decide +kernel)]; exact ⟨rfl, rfl⟩))
    (fun os started H enc _ => lifted os started H enc)

end Go.Proofs.Ytedifnkafoepkaa.sumParts
namespace Go.Proofs.Ytedifnkafoepkaa
theorem sumParts_holds : Rows.SumPartsSaid := sumParts.over
end Go.Proofs.Ytedifnkafoepkaa
