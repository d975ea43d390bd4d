/- For every bytes and every two numbers: the statement 'SumTurns' returns true, and its arguments read behind the call as they read before. No condition. -/
import Derived.Test.YtedifnkafoepkaaRows
import Derived.WalkKit
import Derived.ProofKit
import Derived.OpenShut
import Derived.ShutString
import Derived.ChangeOld
import Derived.Below
import Derived.Test.YtedifnkafoepkaaTurn
namespace Go.Proofs.Ytedifnkafoepkaa.sumTurns
open Go.ChangeShapes Go.WideShapes Go.ChangeAt Go.RowKit
open Go.ChangeMaps (open_string shut_string)
set_option linter.unusedVariables false

theorem own : ownKnob Try.prog.godebug = none := by kernel_rfl
theorem laidOut : laidOutB Try.prog = true := by kernel_rfl

/-! ### The walk -/
set_option maxHeartbeats 1600000 in
set_option maxRecDepth 100000 in
theorem walk (a0 : Option Addr) (len0 cap0 : Nat) (z0 : List Int) (a1 : Int) (a2 : Int) (w : World) (w0 : IsRow .u8 w a0 len0 cap0 z0) (w1 : (Lit.int .u16 a1).wf = true) (w2 : (Lit.int .u32 a2).wf = true) :
    Calls Try.prog 5 #[.slice a0 len0 cap0, .int .u16 a1, .int .u32 a2] w fun e w' => e = .returned (.bool true) ∧ Below w.heap.size w w' := by
  obtain ⟨l, hBS⟩ := w0.bs
  have HB := hide hBS
  have hby := hide hBS.2.2.1
  have hlen := hide hBS.1
  clear w0
  have hx : 0 ≤ a1 ∧ a1 < 65536 := by simp [Lit.wf, IntKind.min, IntKind.max, IntKind.bits, IntKind.signed] at w1; omega
  have hy : 0 ≤ a2 ∧ a2 < 4294967296 := by simp [Lit.wf, IntKind.min, IntKind.max, IntKind.bits, IntKind.signed] at w2; omega
  obtain ⟨hx0, hx1⟩ := hx
  obtain ⟨hy0, hy1⟩ := hy
  clear w1 w2
  by_cases hor : len0 = 0 ∨ 1500 < len0
  · clear hBS
    rcases hor with rfl | h15
    · go_enter Try.func5, Try.ntmps5
      go_wp2_with fail
      refine (awake_any w).mono ?_
      rintro e w' ⟨rfl, hb⟩
      have Hb := hide hb
      clear hb
      go_wp2
      go_ret
      exact ⟨rfl, Hb.out⟩
    · have hne : ((len0 : Int) == 0) = false := by simp; omega
      go_enter Try.func5, Try.ntmps5
      go_wp2_with fail
      refine (awake_any w).mono ?_
      rintro e w' ⟨rfl, hb⟩
      have Hb := hide hb
      clear hb
      go_wp2
      go_ret
      exact ⟨rfl, Hb.out⟩
  · have hp : 0 < len0 := by omega
    have h15 : len0 ≤ 1500 := by omega
    clear hor
    obtain ⟨b, off, rfl, hcl⟩ : ∃ b off, a0 = some ⟨b, off, none⟩ ∧ ∀ i, i < len0 → w.cell? ⟨b, off + i, none⟩ = some (.int .u8 (l.getD i 0)) := by
      rcases hBS.2.2.2 with h0 | h1
      · omega
      · exact h1
    clear hBS
    have HC := hide hcl
    clear hcl
    have hne : ((len0 : Int) == 0) = false := by simp; omega
    obtain ⟨f, hF⟩ : ∃ f : Nat, a1 % (8 * (len0 : Int)) = (f : Int) := ⟨(a1 % (8 * (len0 : Int))).toNat, (Int.toNat_of_nonneg (Int.emod_nonneg _ (by omega))).symm⟩
    have hf1 : (f : Int) < 8 * (len0 : Int) := by rw [← hF]; exact Int.emod_lt_of_pos _ (by omega)
    obtain ⟨i0, hi, hz0, hz1, hz2⟩ := info_parts Try.info5
    have hown0 : (w.alloc (.cells #[] 5)).ownsRow w.heap.size 5 1 (.slice (some ⟨w.heap.size, 0, none⟩) 0 0) 0 [] := World.ownsRow_made w #[] 0 (Nat.le_refl _) (by decide) rfl
    go_enter Try.func5, Try.ntmps5
    go_wp2_with (first
      | (at_builtin; refine wpList_append_own _ rfl _ _ 23 rfl w.heap.size 5 i0 (.int .u8 0) 1 1 Try.underlying23 hi hz0 hz1 hz2 rfl (by decide) _ _ _ rfl hown0 ⟨b, off, none⟩ len0 cap0 (l.map (Value.int .u8)) rfl (by simp [hlen.out]) ?c1 ?c2 ?c3 ?c4 ?c5 ?_)
      | fail)
    case c1 =>
      intro j u hj
      rw [List.getElem?_map, Option.map_eq_some_iff] at hj
      obtain ⟨x, hx, rfl⟩ := hj
      obtain ⟨hj1, hx2⟩ := List.getElem?_eq_some_iff.1 hx
      have h1 := HC.out j (by rw [← hlen.out]; exact hj1)
      have h2 : l.getD j 0 = x := by simp [List.getD_eq_getElem?_getD, hx]
      rw [h2] at h1
      have h3 : (⟨b, off, none⟩ : Addr).add j = ⟨b, off + j, none⟩ := by
        by_cases hj0 : j = 0
        · subst hj0; simp [Addr.add]
        · simp [Addr.add, hj0]
      rw [h3]
      exact Lib.cell?_alloc_marked _ h1
    case c2 =>
      intro u hu
      rw [List.mem_map] at hu
      obtain ⟨x, _, rfl⟩ := hu
      rfl
    case c3 => unfold maxLen; omega
    case c4 => omega
    case c5 => simp
    intro v' w1 hown hgrow hnn
    obtain ⟨g, cp, rfl, hgl⟩ : ∃ g cp, v' = .slice (some ⟨g, 0, none⟩) len0 cp ∧ w.heap.size ≤ g := by
      rcases hown.2 with ⟨hv, h0⟩ | ⟨g, cap, cur, hv, hb, _⟩
      · omega
      · exact ⟨g, cap, hv, hb⟩
    have Hbel : Hid (Below w.heap.size w w1) := ((Below.refl w.heap.size w).alloc (Nat.le_refl _) (.cells #[] 5)).grown hgrow (by simp) (fun j hj => by have := (hown0.lt j hj).1; omega)
    have Hown := hide hown
    clear hown hgrow hnn hown0
    go_wp2
    clear hF
    go_loopw [9, 10] (fun t i wr => ∃ n : Nat, n ≤ 32 ∧ i = .int .i64 n ∧ f + n ≤ 8 * len0 ∧ ∃ tt, t = .bool tt ∧ ∃ cs : List Int, Hid (TR l cs a2 f n tt) ∧ Hid (wr.ownsRow w.heap.size 5 1 (.slice (some ⟨g, 0, none⟩) len0 cp) len0 (cs.map (Value.int .u8))) ∧ Hid (Below w.heap.size w wr)) (fun _ i _ => 32 - (intOf i).toNat)
    case atStart => exact ⟨0, by omega, rfl, by omega, false, rfl, l, TR.start l a2 f hby.out, Hown.out, Hbel.out⟩
    case round =>
      obtain ⟨n, hn, rfl, hfn, tt, rfl, cs, htr, hco, hcw⟩ := hrel
      by_cases hn32 : n < 32
      · by_cases hfl : f + n < 8 * len0
        · have hk8 : (f + n) / 8 < len0 := by omega
          have hcell : wr.cell? ⟨g, (f + n) / 8, none⟩ = some (.int .u8 (cs.getD ((f + n) / 8) 0)) := by
            rw [hco.out.cellAt _ (by omega)]
            have h1 := htr.out.1
            have h2 := hlen.out
            simp [List.getD_eq_getElem?_getD, show (f + n) / 8 < cs.length from by omega]
          have hfz := hco.out.frozenAt ((f + n) / 8)
          have hfi : (f : Int) + (n : Int) < 8 * (len0 : Int) := by omega
          by_cases hs : ((a2 / 2 ^ n).tmod 2 == 1) = true
          · have htr2 : Hid (TR l (tog cs (f + n)) a2 f (n + 1) true) := htr.out.yes (by rw [hlen.out]; exact hfl) hs
            have hco2 := hide (own_tog hco.out (f + n))
            go_wp2
            go_roundw
            case rel => exact ⟨n + 1, by omega, by go_num, by omega, true, rfl, tog cs (f + n), htr2, hco2, hcw.out.setCell (by exact hgl) _⟩
            case measure => simp [intOf]; omega
          · have hsf : ((a2 / 2 ^ n).tmod 2 == 1) = false := by simpa using hs
            clear hs
            have htr2 : Hid (TR l cs a2 f (n + 1) tt) := htr.out.no hsf
            go_wp2
            go_roundw
            case rel => exact ⟨n + 1, by omega, by go_num, by omega, tt, rfl, cs, htr2, hco, hcw⟩
            case measure => simp [intOf]; omega
        · have hfi : ¬ (f : Int) + (n : Int) < 8 * (len0 : Int) := by omega
          have hEq : (of [l] != of [cs]) = tt := htr.out.sum hby.out hn (by rw [hlen.out]; exact hfn)
          have HBr := hide (HB.out.ext ((Ext.refl w).below hcw.out))
          have hQ1 := hide (one_ps wr (some ⟨b, off, none⟩) len0 cap0 l HBr.out)
          have hQ2 := hide (next_ps wr (.cells #[.slice (some ⟨b, off, none⟩) len0 cap0] 23) (some ⟨g, 0, none⟩) len0 cp cs (BS.own hco.out htr.out.2.1 (by unfold maxLen; omega)))
          go_wp2_with fail
          refine (of_any _ _ _ [l] _ hQ1.out).mono ?_
          rintro e w2 ⟨rfl, rfl⟩
          go_wp2_with fail
          refine (of_any _ _ _ [cs] _ hQ2.out).mono ?_
          rintro e w2 ⟨rfl, rfl⟩
          go_wp2_with fail
          refine (awake_any _).mono ?_
          rintro e w2 ⟨rfl, hb⟩
          have Hb := hide hb
          clear hb
          go_wp2
          go_ret
          have z := hcw.out.size
          have hbel := hcw.out
          refine ⟨rfl, Below.trans ?_ (Hb.out.mono ?_)⟩
          · go_grown
          · simp only [World.size_alloc]; omega
      · have hn33 : ¬ (n : Int) < 32 := by omega
        have hEq : (of [l] != of [cs]) = tt := htr.out.sum hby.out hn (by rw [hlen.out]; exact hfn)
        have HBr := hide (HB.out.ext ((Ext.refl w).below hcw.out))
        have hQ1 := hide (one_ps wr (some ⟨b, off, none⟩) len0 cap0 l HBr.out)
        have hQ2 := hide (next_ps wr (.cells #[.slice (some ⟨b, off, none⟩) len0 cap0] 23) (some ⟨g, 0, none⟩) len0 cp cs (BS.own hco.out htr.out.2.1 (by unfold maxLen; omega)))
        go_wp2_with fail
        refine (of_any _ _ _ [l] _ hQ1.out).mono ?_
        rintro e w2 ⟨rfl, rfl⟩
        go_wp2_with fail
        refine (of_any _ _ _ [cs] _ hQ2.out).mono ?_
        rintro e w2 ⟨rfl, rfl⟩
        go_wp2_with fail
        refine (awake_any _).mono ?_
        rintro e w2 ⟨rfl, hb⟩
        have Hb := hide hb
        clear hb
        go_wp2
        go_ret
        have z := hcw.out.size
        have hbel := hcw.out
        refine ⟨rfl, Below.trans ?_ (Hb.out.mono ?_)⟩
        · go_grown
        · simp only [World.size_alloc]; omega

/-! ### THE ROW's STEP: -/
set_option maxRecDepth 100000 in
theorem lifted (os : Os) (started : os.Started) (H : Type) (enc : TypeId × Value → H) :
    ReturnsInHanded {} Try.checked os 5 .any (Rows.sumTurnsSpec.pre6 enc Try.prog Try.f5 Rows.sumTurnsRow.domain false) (Rows.sumTurnsSpec.post enc Try.prog Try.f5 false true false false) := by
  refine returnsInHanded_of_change (C := Try.checked) own started (by kernel_rfl) Try.func5
    (ChangeSpec.witness6 (enc := enc) (C := Try.checked) false ⟨#[], #[.slice none 0 0, .int .u16 0, .int .u32 0], []⟩ 8 (by kernel_rfl) (by kernel_rfl) (by kernel_rfl) (by kernel_rfl)) ?_
  intro W base args ds gs before hval0 hW hcnd _
  have hval : ∀ (j : Nat) t v, Try.f5.params[j]? = some t → args[j]? = some v → Value.okWide Try.prog W .any base t v := hval0
  have hW' := hW
  obtain ⟨p, q, hA0, hV, rfl, hfz, hnd⟩ := hW
  have hA : DataW.TrodAll enc Try.prog W 0 (fun _ => true) true Try.f5.params.toList args.toList ds p := hA0
  rw [Try.params5] at hA hval
  obtain ⟨v0, vs0, d0, ds0, p0, q0, hargs, rfl, rfl, h0, r0⟩ := trodAll_cons hA
  obtain ⟨v1, vs1, d1, ds1, p1, q1, rfl, rfl, rfl, h1, r1⟩ := trodAll_cons r0
  obtain ⟨v2, vs2, d2, ds2, p2, q2, rfl, rfl, rfl, h2, r2⟩ := trodAll_cons r1
  obtain ⟨rfl, rfl, rfl⟩ := trodAll_nil r2
  obtain rfl : args = #[v0, v1, v2] := by cases args; simp_all
  obtain ⟨rfl, rfl⟩ := trodVars_none hV
  obtain ⟨a0, len0, cap0, rfl⟩ := okWide_slice Try.underlying23 (hval 0 23 v0 rfl rfl)
  have k0 := h0
  have lt0 : ∀ x ∈ p0, x.block < W.heap.size := by obtain ⟨m, hm⟩ := k0; exact DataW.trod_lt m _ _ _ hm
  obtain ⟨z0, w0⟩ : ∃ zs, IsRow .u8 W a0 len0 cap0 zs := by
    obtain ⟨fuel, hf⟩ := h0
    rcases open_ints Try.underlying23 Try.underlying5 (by kernel_rfl) hf with ⟨hcs, _⟩ | ⟨x, l, c, zs, hcs, _, hl, hm, hz, _, hcell, hwz⟩
    · simp [Value.cells] at hcs
      obtain ⟨rfl, rfl, rfl⟩ := hcs
      exact ⟨[], .inl ⟨rfl, rfl, rfl, rfl⟩⟩
    · simp [Value.cells] at hcs
      obtain ⟨rfl, rfl, rfl⟩ := hcs
      exact ⟨zs, .inr ⟨_, rfl, hl, hm, by simpa using hz, hcell, hwz⟩⟩
  obtain ⟨a1, rfl, rfl, rfl, w1⟩ := open_int Try.underlying29 (hval 1 29 v1 rfl rfl) h1
  obtain ⟨a2, rfl, rfl, rfl, w2⟩ := open_int Try.underlying22 (hval 2 22 v2 rfl rfl) h2
  clear hA0 hval0
  refine (walk a0 len0 cap0 z0 a1 a2 W w0 w1 w2).mono fun e W' ⟨he, bel⟩ => ?_
  subst he
  exact ⟨_, rfl, _, _, _, [], _, [], hW', trodAll_mk1 (shut_bool Try.underlying4 _), (trodAll_cons_mk (Below.trod laidOut (by kernel_rfl) (of_decide_eq_true (by kernel_rfl)) k0 bel lt0) (trodAll_cons_mk (shut_int Try.underlying29 w1) (trodAll_cons_mk (shut_int Try.underlying22 w2) trodAll_mk0))), rfl, bel.frame _, fun h => by cases h⟩

theorem over : Rows.sumTurnsRow.holds Try.pinned (OpenSpec.ofChange Rows.sumTurnsSpec) :=
  OpenClaim.holds_of_wide 5 Try.f5 rfl rfl rfl rfl rfl rfl rfl ⟨rfl, rfl, rfl, rfl, rfl⟩ rfl rfl rfl rfl rfl (by kernel_rfl) Try.func5 (by kernel_rfl)
    (of_decide_eq_true (by kernel_rfl)) (by unfold Func.isWrapper; first | (rw [if_pos (by decide +kernel)]; kernel_rfl) | (rw [if_neg (by decide +kernel)]; exact ⟨rfl, rfl⟩))
    (fun os started H enc _ => lifted os started H enc)

end Go.Proofs.Ytedifnkafoepkaa.sumTurns
namespace Go.Proofs.Ytedifnkafoepkaa
theorem sumTurns_holds : Rows.SumTurnsSaid := sumTurns.over
end Go.Proofs.Ytedifnkafoepkaa
