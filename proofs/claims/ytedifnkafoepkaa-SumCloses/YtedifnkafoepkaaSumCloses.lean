/- For every bytes: the statement 'SumCloses' returns true, and its argument reads behind the call as it read before. No condition. -/
import Derived.Test.YtedifnkafoepkaaRows
import Derived.WalkKit
import Derived.ProofKit
import Derived.OpenShut
import Derived.ShutString
import Derived.ChangeOld
import Derived.Below
import Derived.Test.YtedifnkafoepkaaLay
import Derived.Deep.RegionWith
import Derived.Deep.RegionHeld3
namespace Go.Proofs.Ytedifnkafoepkaa.sumCloses
open Go.ChangeShapes Go.WideShapes Go.ChangeAt Go.RowKit
open Go.ChangeMaps (open_string shut_string)
set_option linter.unusedVariables false

theorem own : ownKnob Try.prog.godebug = none := by kernel_rfl
theorem laidOut : laidOutB Try.prog = true := by kernel_rfl

/-! ### The walk -/
set_option maxHeartbeats 1600000 in
set_option maxRecDepth 100000 in
theorem walk (a0 : Option Addr) (len0 cap0 : Nat) (z0 : List Int) (w : World) (w0 : IsRow .u8 w a0 len0 cap0 z0) :
    Calls Try.prog 6 #[.slice a0 len0 cap0] w fun e w' => e = .returned (.bool true) ∧ Below w.heap.size w w' := by
  obtain ⟨l, hBS⟩ := w0.bs
  have hcap0 : (len0 : Int) ≤ (cap0 : Int) := by
    rcases w0 with ⟨rfl, rfl, rfl, rfl⟩ | ⟨x, rfl, hl, _⟩
    · omega
    · omega
  have HB := hide hBS
  have hby := hide hBS.2.2.1
  clear hBS w0
  by_cases h15 : 1500 < len0
  · go_enter Try.func6, Try.ntmps6
    go_wp2_with fail
    refine (awake_any w).mono ?_
    rintro e w' ⟨rfl, hb⟩
    have Hb := hide hb
    clear hb
    go_wp2
    go_ret
    exact ⟨rfl, Hb.out⟩
  · have hps := hide (one_ps w a0 len0 cap0 l HB.out)
    go_enter Try.func6, Try.ntmps6
    go_wp2_with fail
    obtain ⟨s, hs⟩ : ∃ s, of [l] = s := ⟨_, rfl⟩
    have hs0 : 0 ≤ s := by rw [← hs]; exact (of_bd _).1
    have hs1 : s < 4294967296 := by rw [← hs]; exact (of_bd _).2
    refine (of_as _ _ _ [l] _ s hs hps.out).mono ?_
    rintro e w1 ⟨rfl, rfl⟩
    have HS := hide hs
    clear hs
    go_wp2_with fail
    obtain ⟨W1, hW1⟩ : ∃ W1, W1 = w.alloc (.cells #[.slice a0 len0 cap0] 23) := ⟨_, rfl⟩
    rw [← hW1]
    have HB1 : Hid (BS W1 a0 len0 l) := by rw [hW1]; exact HB.out.ext ((Ext.refl w).alloc _)
    have Hbel : Hid (Below w.heap.size w W1) := by rw [hW1]; exact (Below.refl _ _).alloc (Nat.le_refl _) _
    clear hW1 hps HB
    have hcl := hide (closes_wrap l hby.out s HS.out)
    have hmk := make4
    go_region_held3 (fun _ => True) (trivial) (first
      | (go_at_call_of 8 (2 : Nat); refine (of_as _ _ _ _ _ (of [[0, 0, 0, 0]]) hcl.out ?_).mono ?_; (first | (refine PS.two (a1 := a0) (len1 := len0) (c1 := cap0) (a2 := some ⟨W1.heap.size, 0, none⟩) (len2 := 4) (c2 := 4) ?_ ?_ (HB1.out.ext (by repeat (first | exact Ext.refl _ | refine Ext.drew ?_ | refine Ext.alloc ?_ _))) (BS.four ?_ ?_ ?_ ?_ (wrap_bytes _ _ _ _)) <;> go_cell) | (refine PS.two (a1 := a0) (len1 := len0) (c1 := cap0) (a2 := some ⟨W1.heap.size + 1, 0, none⟩) (len2 := 4) (c2 := 4) ?_ ?_ (HB1.out.ext (by repeat (first | exact Ext.refl _ | refine Ext.drew ?_ | refine Ext.alloc ?_ _))) (BS.four ?_ ?_ ?_ ?_ (wrap_bytes _ _ _ _)) <;> go_cell) | (refine PS.two (a1 := a0) (len1 := len0) (c1 := cap0) (a2 := some ⟨W1.heap.size + 1 + 1, 0, none⟩) (len2 := 4) (c2 := 4) ?_ ?_ (HB1.out.ext (by repeat (first | exact Ext.refl _ | refine Ext.drew ?_ | refine Ext.alloc ?_ _))) (BS.four ?_ ?_ ?_ ?_ (wrap_bytes _ _ _ _)) <;> go_cell)); rintro e w' ⟨rfl, rfl⟩)
      | (go_at_call 8; refine (of_as _ _ _ [[0, 0, 0, 0]] _ (of [[0, 0, 0, 0]]) rfl ?_).mono ?_; (first | (refine PS.one (a1 := some ⟨W1.heap.size, 0, none⟩) (len1 := 4) (c1 := 4) ?_ (BS.four ?_ ?_ ?_ ?_ (by decide)) <;> go_cell) | (refine PS.one (a1 := some ⟨W1.heap.size + 1, 0, none⟩) (len1 := 4) (c1 := 4) ?_ (BS.four ?_ ?_ ?_ ?_ (by decide)) <;> go_cell) | (refine PS.one (a1 := some ⟨W1.heap.size + 1 + 1, 0, none⟩) (len1 := 4) (c1 := 4) ?_ (BS.four ?_ ?_ ?_ ?_ (by decide)) <;> go_cell)); rintro e w' ⟨rfl, rfl⟩)
      | (go_at_call 7; refine (awake_any _).mono ?_; rintro e w' ⟨rfl, hb⟩))
    all_goals
      go_wp2
      go_ret
      have z := Hbel.out.size
      have hbel := Hbel.out
      refine ⟨rfl, Below.trans ?_ (hb.mono ?_)⟩
      · go_grown
      · simp only [World.size_drew, World.size_alloc]; omega

/-! ### THE ROW's STEP: -/
set_option maxRecDepth 100000 in
theorem lifted (os : Os) (started : os.Started) (H : Type) (enc : TypeId × Value → H) :
    ReturnsInHanded {} Try.checked os 6 .any (Rows.sumClosesSpec.pre6 enc Try.prog Try.f6 Rows.sumClosesRow.domain false) (Rows.sumClosesSpec.post enc Try.prog Try.f6 false true false false) := by
  refine returnsInHanded_of_change (C := Try.checked) own started (by kernel_rfl) Try.func6
    (ChangeSpec.witness6 (enc := enc) (C := Try.checked) false ⟨#[], #[.slice none 0 0], []⟩ 8 (by kernel_rfl) (by kernel_rfl) (by kernel_rfl) (by kernel_rfl)) ?_
  intro W base args ds gs before hval0 hW hcnd _
  have hval : ∀ (j : Nat) t v, Try.f6.params[j]? = some t → args[j]? = some v → Value.okWide Try.prog W .any base t v := hval0
  have hW' := hW
  obtain ⟨p, q, hA0, hV, rfl, hfz, hnd⟩ := hW
  have hA : DataW.TrodAll enc Try.prog W 0 (fun _ => true) true Try.f6.params.toList args.toList ds p := hA0
  rw [Try.params6] at hA hval
  obtain ⟨v0, vs0, d0, ds0, p0, q0, hargs, rfl, rfl, h0, r0⟩ := trodAll_cons hA
  obtain ⟨rfl, rfl, rfl⟩ := trodAll_nil r0
  obtain rfl : args = #[v0] := by cases args; simp_all
  obtain ⟨rfl, rfl⟩ := trodVars_none hV
  obtain ⟨a0, len0, cap0, rfl⟩ := okWide_slice Try.underlying23 (hval 0 23 v0 rfl rfl)
  have k0 := h0
  have lt0 : ∀ x ∈ p0, x.block < W.heap.size := by obtain ⟨m, hm⟩ := k0; exact DataW.trod_lt m _ _ _ hm
  obtain ⟨z0, w0⟩ : ∃ zs, IsRow .u8 W a0 len0 cap0 zs := by
    obtain ⟨fuel, hf⟩ := h0
    rcases open_ints Try.underlying23 Try.underlying5 (by kernel_rfl) hf with ⟨hcs, _⟩ | ⟨x, l, c, zs, hcs, _, hl, hm, hz, _, hcell, hwz⟩
    · simp [Value.cells] at hcs
      obtain ⟨rfl, rfl, rfl⟩ := hcs
      exact ⟨[], .inl ⟨rfl, rfl, rfl, rfl⟩⟩
    · simp [Value.cells] at hcs
      obtain ⟨rfl, rfl, rfl⟩ := hcs
      exact ⟨zs, .inr ⟨_, rfl, hl, hm, by simpa using hz, hcell, hwz⟩⟩
  clear hA0 hval0
  refine (walk a0 len0 cap0 z0 W w0).mono fun e W' ⟨he, bel⟩ => ?_
  subst he
  exact ⟨_, rfl, _, _, _, [], _, [], hW', trodAll_mk1 (shut_bool Try.underlying4 _), (trodAll_cons_mk (Below.trod laidOut (by kernel_rfl) (of_decide_eq_true (by kernel_rfl)) k0 bel lt0) trodAll_mk0), rfl, bel.frame _, fun h => by cases h⟩

theorem over : Rows.sumClosesRow.holds Try.pinned (OpenSpec.ofChange Rows.sumClosesSpec) :=
  OpenClaim.holds_of_wide 6 Try.f6 rfl rfl rfl rfl rfl rfl rfl ⟨rfl, rfl, rfl, rfl, rfl⟩ rfl rfl rfl rfl rfl (by kernel_rfl) Try.func6 (by kernel_rfl)
    (of_decide_eq_true (by kernel_rfl)) (by unfold Func.isWrapper; first | (rw [if_pos (by decide +kernel)]; kernel_rfl) | (rw [if_neg (by decide +kernel)]; exact ⟨rfl, rfl⟩))
    (fun os started H enc _ => lifted os started H enc)

end Go.Proofs.Ytedifnkafoepkaa.sumCloses
namespace Go.Proofs.Ytedifnkafoepkaa
theorem sumCloses_holds : Rows.SumClosesSaid := sumCloses.over
end Go.Proofs.Ytedifnkafoepkaa
