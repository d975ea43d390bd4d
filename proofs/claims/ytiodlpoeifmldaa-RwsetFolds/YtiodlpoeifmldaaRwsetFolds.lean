/- In whatever order events are done, if what is ahead is done ahead, what is there is told by which events there are alone; so it is, if it is cleaned in between by what all later events know. -/
import Derived.Test.YtiodlpoeifmldaaRows
import Derived.WalkKit
import Derived.ProofKit
import Derived.OpenShut
import Derived.ShutString
import Derived.ChangeOld
import Derived.Below
import Derived.SizedLaws
import Derived.Test.YtiodlpoeifmldaaZ17
import Derived.Test.YtiodlpoeifmldaaZ20
import Derived.Test.YtiodlpoeifmldaaZ21
import Derived.Test.YtiodlpoeifmldaaD2
import Derived.Test.YtiodlpoeifmldaaD3
import Derived.Test.YtiodlpoeifmldaaB5
import Derived.Test.YtiodlpoeifmldaaZ3
namespace Go.Proofs.Ytiodlpoeifmldaa.rwsetFolds
open Go.ChangeShapes Go.WideShapes Go.ChangeAt Go.RowKit
set_option linter.unusedVariables false

theorem own : ownKnob Try.prog.godebug = none := by kernel_rfl
theorem laidOut : laidOutB Try.prog = true := by kernel_rfl

set_option maxRecDepth 2000 in
set_option maxHeartbeats 16000000 in
theorem walk (v0 : Value) (v1 : Value) (a2 : Int) (w : World) (w0 : InEs w v0) (w1 : InU w v1) (w2 : (Lit.int .i64 a2).wf = true) :
    Calls Try.prog 5 #[v0, v1, .int .i64 a2] w fun e w' => e = .returned (.bool true) ∧ Below w.heap.size w w' := by
  obtain ⟨a, n, cap, l, rfl, hE, hcp⟩ := w0
  obtain ⟨pt, nt, ct, tl, rfl, hT, _⟩ := w1
  have HV := hide hE
  have HT := hide hT
  have HLEN := hide hE.len
  have hnc := hcp.1
  have BB : Hid (Below w.heap.size w w) := Below.refl _ _
  clear hE hT hcp
  by_cases hn : (n : Int) ≤ 14
  · by_cases hnt : (nt : Int) ≤ 60
    · have HWH := hide (Whole_any a n cap l w HV.out (by omega) hnc)
      rcases hw : wholeB l with _ | _
      · rw [hw] at HWH
        go_enter Try.func5, Try.ntmps5
        go_wp2_with (first | (go_at_call 26; refine HWH.out.mono ?_; rintro e w1 ⟨rfl, hb⟩; replace BB := hide (bel_next BB.out hb); clear hb) | (go_at_call 8; refine (awake9 _).mono ?_; rintro e wz ⟨rfl, hb⟩))
        go_ret
        exact ⟨rfl, bel_next BB.out hb⟩
      · rw [hw] at HWH
        have HW := hide hw
        obtain ⟨hm, hnd, _⟩ := closed_parts.1 (wholeB_iff.1 hw).1
        have HM := hide hm
        have HND := hide hnd
        clear hw hm hnd
        go_enter Try.func5, Try.ntmps5
        go_upto_region 3 with (go_at_call 26; refine HWH.out.mono ?_; rintro e wt ⟨rfl, hb⟩; replace BB := hide (bel_next BB.out hb); clear hb HWH)
        go_upto_region 4 with (go_at_call 27; refine (Turned_any a n cap l pt nt ct tl _ (HV.out.below BB.out) (by omega) (HT.out.below BB.out) HW.out).mono ?_; rintro e w2 ⟨v8, es, ck, rfl, hoe, hti, hel, hb⟩; obtain ⟨p8, c8, rfl, hev, hc8⟩ := hoe.evs hb; have HEV := hide hev; have HTI := hide hti; have HEL := hide hel; replace BB := hide (bel_next BB.out hb); clear hoe hev hti hb)
        have hnn8 : es.length = n := HEL.out
        rw [hnn8] at HEV hc8
        clear hnn8 hel
        have hc8' := hc8.1
        clear hc8
        have HMES : Hid (∀ e ∈ es, mayE e = true) := fun e he => HM.out e (HTI.out.sub e he)
        have HRW : Hid (∀ cl, mapP plainF (foldC a2 (knF cl es) es n) = putAll9 l a2 (keysE l)) := fun cl => by
          have q := (rw_meet HM.out HND.out (HTI.out.all (by rw [HEL.out, HLEN.out])) HTI.out.nd HTI.out.ord (wholeB_iff.1 HW.out).2 a2 (knF cl es) (fun i c h => knF_ok h)).2
          rwa [HEL.out] at q
        go_upto_region 5 with (go_at_call 28; refine (fold9_any p8 n c8 es a2 false _ HEV.out HMES.out (by omega)).mono ?_; rintro e w3 ⟨p1, c1, S1, rfl, hs1, _, he1, ht1, hb⟩; have HS1 := hide hs1; have HP1 : Hid (mapP plainF S1 = putAll9 l a2 (keysE l)) := (by rw [he1]; exact HRW.out false); have HT1 := hide ht1; replace HEV := hide (HEV.out.below hb); replace BB := hide (bel_next BB.out hb); clear hs1 he1 ht1 hb)
        obtain ⟨m1, hm1⟩ : ∃ x, S1.length = x := ⟨_, rfl⟩
        rw [hm1] at HS1 ⊢
        clear hm1
        go_upto_region 6 with (go_at_call 28; refine (fold9_any p8 n c8 es a2 true _ HEV.out HMES.out (by omega)).mono ?_; rintro e wr ⟨p2, c2, S2, rfl, hs2, _, he2, ht2, hb⟩; have HS2 := hide hs2; have HP2 : Hid (mapP plainF S2 = putAll9 l a2 (keysE l)) := (by rw [he2]; exact HRW.out true); have HT2 := hide ht2; replace HS1 := hide (HS1.out.below hb); replace BB := hide (bel_next BB.out hb); clear hs2 he2 ht2 hb)
        obtain ⟨m2, hm2⟩ : ∃ x, S2.length = x := ⟨_, rfl⟩
        rw [hm2] at HS2 ⊢
        clear hm2 HEV HRW
        go_upto_region 7 with fail
        have HW0 := hide (bel1 wr (.cells #[] 48))
        obtain ⟨w4, hw4⟩ : ∃ x, x = wr.alloc (.cells #[] 48) := ⟨_, rfl⟩
        rw [← hw4] at HW0 ⊢
        generalize hgr : wr.heap.size = g4 at hw4 ⊢
        clear hgr
        have HNW0 := hide (NSS.nil w4 (some ⟨g4, 0, none⟩))
        replace HS1 := hide (HS1.out.below HW0.out)
        replace HS2 := hide (HS2.out.below HW0.out)
        replace BB := hide (bel_next BB.out HW0.out)
        clear HW0 hw4
        have HV4 := hide (HV.out.below BB.out)
        go_wp2
        go_loopw [12, 13] (fun V v wr2 => ∃ (i : Nat) (ps : Option Addr) (cs : Nat) (S : List En), i ≤ n ∧ v = .int .i64 i ∧ V = .slice ps S.length cs ∧ Hid (NSS wr2 ps S.length S) ∧ Hid (S = putAll9 l a2 (keysE (l.take i))) ∧ Hid (Below w4.heap.size w4 wr2)) (fun _ v _ => n - (intOf v).toNat)
        case atStart => exact ⟨0, some ⟨g4, 0, none⟩, 0, [], by omega, rfl, rfl, HNW0, (show [] = _ by simp [putAll9, keysE]), Below.refl _ _⟩
        case round =>
          clear HNW0
          obtain ⟨i, pw, cw, T, hi, rfl, rfl, HNW, HTF, HB⟩ := hrel
          by_cases hlt : i < n
          · obtain ⟨b, off, rfl⟩ := HV4.out.addr (by omega)
            obtain ⟨r, s, pa, na, ca, pe, ne, ce, c, le, hx, q0, q1, q2, q3, hN, _, hEf, _⟩ := HV4.out.at i hlt
            have C3 := hide q3
            have HX := hide hx
            have HEF := hide hEf
            have HME := hide (HM.out _ (List.mem_of_getElem? hx))
            have HLE := hide hEf.1.1
            have hne : ne ≤ 16 := by rw [← hEf.1.1]; exact eff9_len HME.out
            have hi0 : (0 : Int) ≤ (i : Int) := by omega
            have hi1 : (i : Int) < (n : Int) := by omega
            have hi14 : i < 14 := by omega
            have HT0 : Hid (T = putAll9 l a2 (kAt9 l i ((r, s), c, le) 0)) := by unfold Hid; rw [kAt9_zero]; exact HTF.out
            clear hx q0 q1 q2 q3 hN hEf HTF
            go_wp2
            go_loopw [12, 14] (fun V v wr2 => ∃ (k : Nat) (ps : Option Addr) (cs : Nat) (S : List En), k ≤ ne ∧ v = .int .i64 k ∧ V = .slice ps S.length cs ∧ Hid (NSS wr2 ps S.length S) ∧ Hid (S = putAll9 l a2 (kAt9 l i ((r, s), c, le) k)) ∧ Hid (Below wr.heap.size wr wr2)) (fun _ v _ => ne - (intOf v).toNat)
            case atStart => exact ⟨0, pw, cw, T, by omega, rfl, rfl, HNW, HT0, Below.refl _ _⟩
            case round =>
              clear HNW HT0
              obtain ⟨k, pw, cw, T, hk, rfl, rfl, HNW, HTF, HB2⟩ := hrel
              have HBW := hide (bel_next HB.out HB2.out)
              have c3 := bcell HBW.out C3.out
              by_cases hkn : k < ne
              · obtain ⟨be, offe, rfl⟩ := HEF.out.addr8 (by omega)
                obtain ⟨⟨f1, f2, f3, f4, f5, f6⟩, hxf⟩ : ∃ x, le[k]? = some x := ⟨_, List.getElem?_eq_getElem (by rw [HLE.out]; exact hkn)⟩
                obtain ⟨y0, y1, y2, y3, y4, y5⟩ := (HEF.out.below HBW.out).at k _ hxf
                simp only at y0 y1 y2 y3 y4 y5
                have HXF : Hid (((((r, s), c, le) : Evt).2.2)[k]? = some (f1, f2, f3, f4, f5, f6)) := hxf
                have hk0 : (0 : Int) ≤ (k : Int) := by omega
                have hk1 : (k : Int) < (ne : Int) := by omega
                have HTN : Hid (putP T (strOfNums f3) (liveL9 l a2 (strOfNums f3), []) = putAll9 l a2 (kAt9 l i ((r, s), c, le) (k + 1))) := by
                  unfold Hid
                  rw [kAt9_step HXF.out, ← HTF.out]
                  rfl
                have HSR : Hid (SrtK T) := by rw [HTF.out]; exact kAt9_cn _ _ _ _ _
                have HTL : Hid (T.length ≤ 300) := by rw [HTF.out]; exact kAt9_len HM.out (by omega) (by omega)
                have HLL := hide (liveL9_len l a2 (strOfNums f3))
                have HLV := hide (Live9_any (some ⟨b, off, none⟩) n cap l a2 (strOfNums f3) wr (HV4.out.below HBW.out) (by omega) HND.out)
                generalize liveL9 l a2 (strOfNums f3) = lv at *
                clear hxf HTF
                go_wp2_with (first | (go_at_call 30; refine HLV.out.mono ?_; rintro e w5 ⟨v5, rfl, ho5, hb5⟩; obtain ⟨p5, c5, rfl, hd5, hc5⟩ := ho5.open; have HD5 := hide hd5; have HC5 := hide hc5; have HB5 := hide hb5; clear ho5 hd5 hc5 hb5 y0 y1 y2 y3 y4 y5 c3) | (go_at_call 29; refine (PutP_ref pw _ cw T (strOfNums f3) p5 _ c5 lv none 0 0 [] _ (HNW.out.below HB5.out) HSR.out HD5.out HC5.out (DS.nil _ _) ⟨Nat.le_refl _, by decide, fun _ => rfl⟩ (by have := HTL.out; omega) (by have := HLL.out; rw [HLEN.out] at this; omega) (by omega)).mono ?_; rintro e w6 ⟨p6, c6, rfl, hn6, hc6, hb6⟩; have HN6 := hide hn6; have HB6 := hide hb6; clear hn6 hc6 hb6))
                go_roundw
                case rel => exact ⟨k + 1, p6, c6, _, by omega, by go_num, rfl, HN6, HTN, (show Hid _ from bel_next HB2.out (bel_next HB5.out HB6.out))⟩
                case measure => simp [intOf]; omega
              · obtain rfl : k = ne := by omega
                have HT2 : Hid (T = putAll9 l a2 (keysE (l.take (i + 1)))) := by rw [HTF.out]; exact kAt9_end HX.out HLE.out
                clear HTF
                go_wp2
                go_roundw
                case rel => exact ⟨i + 1, pw, cw, T, by omega, by go_num, rfl, HNW, HT2, HBW⟩
                case measure => simp [intOf]; omega
          · obtain rfl : n = i := by omega
            have HTE : Hid (T = putAll9 l a2 (keysE l)) := by
              have q := HTF.out
              rwa [← HLEN.out, List.take_length] at q
            have E1 : Hid (pl9 S1 = T) := by unfold Hid pl9; rw [if_pos HT1.out.may, HP1.out, HTE.out]
            have E2 : Hid (pl9 S2 = T) := by unfold Hid pl9; rw [if_pos HT2.out.may, HP2.out, HTE.out]
            have HQ1 : Hid (∀ W, NSS W p1 m1 S1 → Calls Try.prog 20 #[.slice p1 m1 c1] W fun e w' => ∃ p cp, e = .returned (.slice p T.length cp) ∧ NSS w' p T.length T ∧ CP p T.length cp ∧ Below W.heap.size W w') := fun W g => by
              have q := Plain9_any p1 m1 c1 S1 W g (fun x hx => ⟨Nat.le_trans (HT1.out.few x hx).1 (by omega), Nat.le_trans (HT1.out.few x hx).2 (by omega)⟩)
              rw [E1.out] at q
              exact q
            have HQ2 : Hid (∀ W, NSS W p2 m2 S2 → Calls Try.prog 20 #[.slice p2 m2 c2] W fun e w' => ∃ p cp, e = .returned (.slice p T.length cp) ∧ NSS w' p T.length T ∧ CP p T.length cp ∧ Below W.heap.size W w') := fun W g => by
              have q := Plain9_any p2 m2 c2 S2 W g (fun x hx => ⟨Nat.le_trans (HT2.out.few x hx).1 (by omega), Nat.le_trans (HT2.out.few x hx).2 (by omega)⟩)
              rw [E2.out] at q
              exact q
            replace HS1 := hide (HS1.out.below HB.out)
            replace HS2 := hide (HS2.out.below HB.out)
            replace BB := hide (bel_next BB.out HB.out)
            clear HTF HTE E1 E2 HB
            generalize T.length = nT at *
            go_wp2_with (go_at_call 20; refine (HQ1.out _ HS1.out).mono ?_; rintro e w7 ⟨p7, c7, rfl, hn7, hc7, hb7⟩; have HN7 := hide hn7; replace HS2 := hide (HS2.out.below hb7); replace HNW := hide (HNW.out.below hb7); replace BB := hide (bel_next BB.out hb7); clear hn7 hc7 hb7; refine Stop.at ?_)
            unfold Stop
            go_wp2_with (go_at_call 16; refine (SameS_ref p7 nT c7 T pw nT cw T _ HN7.out HNW.out).mono ?_; rintro e w8 ⟨rfl, hb8⟩; rw [decide_eq_true (rfl : T = T)]; replace HS2 := hide (HS2.out.below hb8); replace HNW := hide (HNW.out.below hb8); replace BB := hide (bel_next BB.out hb8); clear hb8; refine Stop.at ?_)
            unfold Stop
            go_wp2_with (go_at_call 20; refine (HQ2.out _ HS2.out).mono ?_; rintro e w9 ⟨p9, c9, rfl, hn9, hc9, hb9⟩; have HN9 := hide hn9; replace HNW := hide (HNW.out.below hb9); replace BB := hide (bel_next BB.out hb9); clear hn9 hc9 hb9; refine Stop.at ?_)
            unfold Stop
            go_wp2_with (go_at_call 16; refine (SameS_ref p9 nT c9 T pw nT cw T _ HN9.out HNW.out).mono ?_; rintro e w10 ⟨rfl, hb8⟩; rw [decide_eq_true (rfl : T = T)]; replace BB := hide (bel_next BB.out hb8); clear hb8; refine Stop.at ?_)
            unfold Stop
            go_wp2_with (go_at_call 8; refine (awake9 _).mono ?_; rintro e wz ⟨rfl, hb⟩)
            go_ret
            exact ⟨rfl, bel_next BB.out hb⟩
    · go_enter Try.func5, Try.ntmps5
      go_wp2_with (go_at_call 8; refine (awake9 _).mono ?_; rintro e wz ⟨rfl, hb⟩)
      go_ret
      exact ⟨rfl, bel_next BB.out hb⟩
  · go_enter Try.func5, Try.ntmps5
    go_wp2_with (go_at_call 8; refine (awake9 _).mono ?_; rintro e wz ⟨rfl, hb⟩)
    go_ret
    exact ⟨rfl, bel_next BB.out hb⟩

/-! ### The row's step -/
set_option maxRecDepth 100000 in
theorem lifted (os : Os) (started : os.Started) (H : Type) (enc : TypeId × Value → H) :
    ReturnsInHanded {} Try.checked os 5 .any (Rows.rwsetFoldsSpec.pre6 enc Try.prog Try.f5 Rows.rwsetFoldsRow.domain false) (Rows.rwsetFoldsSpec.post enc Try.prog Try.f5 false true false false) := by
  refine returnsInHanded_of_change_sized (C := Try.checked) own started (by kernel_rfl) Try.func5
    (ChangeSpec.witness6 (enc := enc) (C := Try.checked) false ⟨#[], #[.slice none 0 0, .slice none 0 0, .int .i64 0], []⟩ 8 (by kernel_rfl) (by kernel_rfl) (by kernel_rfl) (by kernel_rfl)) ?_
  intro W base args ds gs before hval0 hW hcnd hz0 _
  have hval : ∀ (j : Nat) t v, Try.f5.params[j]? = some t → args[j]? = some v → Value.okWide Try.prog W .any base t v := hval0
  have hz : (DataW.weightsEach Try.prog (Try.f5.params.toList ++ Rows.rwsetFoldsSpec.plain.varTypes Try.prog) (ds ++ gs)).all (· ≤ reachBytes) = true := hz0
  have hW' := hW
  obtain ⟨p, q, hA0, hV, rfl, hfz, hnd⟩ := hW
  have hA : DataW.TrodAll enc Try.prog W 0 (fun _ => true) true Try.f5.params.toList args.toList ds p := hA0
  rw [Try.params5] at hA hval hz
  obtain ⟨v0, vs0, d0, ds0, p0, q0, hargs, rfl, rfl, h0, r0⟩ := trodAll_cons hA
  obtain ⟨v1, vs1, d1, ds1, p1, q1, rfl, rfl, rfl, h1, r1⟩ := trodAll_cons r0
  obtain ⟨v2, vs2, d2, ds2, p2, q2, rfl, rfl, rfl, h2, r2⟩ := trodAll_cons r1
  obtain ⟨rfl, rfl, rfl⟩ := trodAll_nil r2
  obtain rfl : args = #[v0, v1, v2] := by cases args; simp_all
  obtain ⟨rfl, rfl⟩ := trodVars_none hV
  have k0 := h0
  have lt0 : ∀ x ∈ p0, x.block < W.heap.size := by obtain ⟨m, hm⟩ := k0; exact DataW.trod_lt m _ _ _ hm
  have w0 : InEs W v0 := in_events (hval 0 52 v0 rfl rfl) h0 (fun n hn => by have := List.all_eq_true.1 hz n (DataW.weights_mem_each (j := 0) (t := 52) rfl rfl n hn); simpa using this)
  have k1 := h1
  have lt1 : ∀ x ∈ p1, x.block < W.heap.size := by obtain ⟨m, hm⟩ := k1; exact DataW.trod_lt m _ _ _ hm
  have w1 : InU W v1 := in_u8s (hval 1 53 v1 rfl rfl) h1 (fun n hn => by have := List.all_eq_true.1 hz n (DataW.weights_mem_each (j := 1) (t := 53) rfl rfl n hn); simpa using this)
  obtain ⟨a2, rfl, rfl, rfl, w2⟩ := open_int Try.underlying3 (hval 2 3 v2 rfl rfl) h2
  clear hA0 hval0 hz0
  refine (walk v0 v1 a2 W w0 w1 w2).mono fun e W' ⟨he, bel⟩ => ?_
  subst he
  exact ⟨_, rfl, _, _, _, [], _, [], hW', trodAll_mk1 (shut_bool Try.underlying4 _), (trodAll_cons_mk (Below.trod laidOut (by kernel_rfl) (of_decide_eq_true (by kernel_rfl)) k0 bel lt0) (trodAll_cons_mk (Below.trod laidOut (by kernel_rfl) (of_decide_eq_true (by kernel_rfl)) k1 bel lt1) (trodAll_cons_mk (shut_int Try.underlying3 w2) trodAll_mk0))), rfl, bel.frame _, fun h => by cases h⟩

theorem over : Rows.rwsetFoldsRow.holds Try.pinned (OpenSpec.ofChange Rows.rwsetFoldsSpec) :=
  OpenClaim.holds_of_wide 5 Try.f5 rfl rfl rfl rfl rfl rfl rfl ⟨rfl, rfl, rfl, rfl, rfl⟩ rfl rfl rfl rfl rfl (by kernel_rfl) Try.func5 (by kernel_rfl)
    (of_decide_eq_true (by kernel_rfl)) (by unfold Func.isWrapper; first | (rw [if_pos (by decide +kernel)]; kernel_rfl) | (rw [if_neg (by decide +kernel)]; exact ⟨rfl, rfl⟩))
    (fun os started H enc _ => lifted os started H enc)
end Go.Proofs.Ytiodlpoeifmldaa.rwsetFolds
namespace Go.Proofs.Ytiodlpoeifmldaa
theorem rwsetFolds_holds : Rows.RwsetFoldsSaid := rwsetFolds.over
end Go.Proofs.Ytiodlpoeifmldaa
