/- Put, Sync and Renew of a journal (layer 7). -/
import Derived.Test.YtofalfaiamaapaaQ5
namespace Go.Proofs.Ytofalfaiamaapaa
open Go.RowKit
set_option linter.unusedVariables false
/-- What a journal's act tells, and leaves. -/
def JPost (N g jb : Nat) (va vb : Value) (w : World) (r : Int × Dk × Int × Int) (e : Ending) (w' : World) : Prop := ∃ va' vb', e = .returned (.int .i64 r.1) ∧ PD N g w' va' vb' r.2.1 ∧ BJ w' jb g r.2.2.1 r.2.2.2 false ∧ Sp (XJ g va vb jb) (XJ g va' vb' jb) w w' ∧ Below N w w'
theorem PD.le {N g : Nat} {w : World} {va vb : Value} {d : Dk} (h : PD N g w va vb d) : N ≤ w.heap.size := Nat.le_trans h.2.2.2.2.1 (Nat.le_of_lt h.1.size)
theorem JPost.same {N g jb : Nat} {va vb : Value} {d : Dk} {s t : Int} {w w' : World} (h : PD N g w va vb d) (hj : BJ w jb g s t false) (hb : Below w.heap.size w w') (r : Int) : JPost N g jb va vb w (r, d, s, t) (.returned (.int .i64 r)) w' :=
  ⟨va, vb, rfl, h.below hb, hj.below hb, Sp.below hb, hb.mono h.le⟩
theorem JPost.after {N g jb : Nat} {va vb : Value} {w w1 w' : World} {r : Int × Dk × Int × Int} {e : Ending} (hb : Below w.heap.size w w1) (hN : N ≤ w.heap.size) (h : JPost N g jb va vb w1 r e w') : JPost N g jb va vb w r e w' := by
  obtain ⟨va', vb', h1, h2, h3, h4, h5⟩ := h
  exact ⟨va', vb', h1, h2, h3, (Sp.below hb).trans h4, (hb.mono hN).trans h5⟩
theorem PD.drew {N g : Nat} {w : World} {va vb : Value} {d : Dk} (h : PD N g w va vb d) : PD N g w.drew va vb d := h.below (Below.refl _ _).drew
theorem BS.drew' {w : World} {p : Option Addr} {n : Nat} {l : List Int} (h : BS w p n l) : BS w.drew p n l := h.below (Below.refl _ _).drew
/-- What Put makes. -/
def putJ (d : Dk) (s t : Int) (l : List Rc) : Int × Dk × Int × Int := if allMay l = false then (1, d, s, t) else if t = 0 then rnw d s t (bytesRs l) else if l.length = 0 then (0, d, s, t) else ((d.pact 0 s (bytesRs l)).2, (d.pact 0 s (bytesRs l)).1, s, t)
def synJ (d : Dk) (s t : Int) : Int × Dk × Int × Int := if t = 0 then (0, d, s, t) else ((d.pact 2 s []).2, (d.pact 2 s []).1, s, t)
def renJ (d : Dk) (s t : Int) (l : List Rc) : Int × Dk × Int × Int := if allMay l = false then (1, d, s, t) else if t = 1099511627776 then (6, d, s, t) else rnw d s t (bytesRs l)
theorem PD.fresh {N g : Nat} {w w1 : World} {va vb : Value} {d : Dk} (h : PD N g w va vb d) {p : Option Addr} {n c : Nat} {l : List Int} (ho : Own w.heap.size w1 (.slice p n c) l) (hb : BS w1 p n l) : BSX (Xs g va vb) w1 p n l := by
  refine ⟨hb, .inr fun a ha hx => ?_⟩
  have := h.xs _ hx
  have q := ho.blk a ha
  omega
set_option maxHeartbeats 4000000 in
theorem Put_any {N g jb : Nat} {va vb : Value} {d : Dk} {s t : Int} (a : Option Addr) (n cap : Nat) (l : List Rc) (w : World) (h : PD N g w va vb d) (hs : d.stop = -1) (hj : BJ w jb g s t false) (hN : N ≤ jb) (h01 : s = 0 ∨ s = 1) (ht0 : 0 ≤ t) (ht1 : t ≤ 1099511627776) (hA : RC w a n l) (hC : CP a n cap) (hbig : (bytesRs l).length ≤ 100000000) :
    Calls Try.prog 26 #[.pointer (some ⟨jb, 0, none⟩), .slice a n cap] w (JPost N g jb va vb w (putJ d s t l)) := by
  have HP := hide h
  have HJ := hide hj
  have HS := hide hs
  have HNJ := hide hN
  have HA := hide hA
  have hln : l.length = n := hA.len
  have HLN := hide hln
  have HBIG := hide hbig
  have HLE := hide h.le
  have hmx := hA.max
  unfold maxLen at hmx
  clear h hj hs hN hA hbig hln
  go_enter Try.func26, Try.ntmps26
  go_wp2_with fail
  refine (Broken_any jb g s t false w HJ.out).mono ?_
  rintro e w1 ⟨rfl, hw⟩
  rw [hw]
  clear hw w1
  go_wp2_with fail
  refine (bytesOf_any a n cap l _ HA.out HBIG.out).mono ?_
  rintro e w4 ⟨⟨hm, v4, rfl, ho⟩ | ⟨hm, rfl⟩, hb⟩
  · have HB := hide hb
    have P4 := hide (HP.out.below hb)
    have J4 := hide (HJ.out.below hb)
    have hbm : By (bytesRs l) := bytesRs_by ((allMay_iff l).1 hm) HA.out.byB
    obtain ⟨p4, c4, rfl, hb4, hc4⟩ := ho.open hbm
    have A4 := hide hb4
    have C4 := hide hc4
    have X4 := hide (HP.out.fresh ho hb4)
    have a2 := J4.out.cell 2 _ rfl
    clear ho hb hb4 hc4 hbm
    by_cases ht : t = 0
    · have HQ : Hid (putJ d s t l = rnw d s t (bytesRs l)) := by
        unfold Hid putJ
        rw [hm, if_neg (by decide), if_pos ht]
      have ht' : (t == 0) = true := by simpa using ht
      have K := hide (renew_any p4 _ c4 (bytesRs l) w4 P4.out HS.out J4.out HNJ.out h01 ht0 (by omega) X4.out C4.out (by have := HBIG.out; omega))
      clear ht
      generalize (bytesRs l).length = n4 at *
      clear hm
      go_wp2_with fail
      refine K.out.mono ?_
      rintro e w5 ⟨va5, vb5, rfl, h1, h2, h3, h4⟩
      have HR : Hid (JPost N g jb va vb w (rnw d s t (bytesRs l)) (.returned (.int .i64 (rnw d s t (bytesRs l)).1)) w5) := JPost.after HB.out HLE.out ⟨va5, vb5, rfl, h1, h2, h3, h4⟩
      clear h1 h2 h3 h4
      go_wp2
      go_ret
      rw [HQ.out]
      exact HR.out
    · have ht' : (t == 0) = false := by simpa using ht
      by_cases hl0 : n = 0
      · have HQ : Hid (putJ d s t l = (0, d, s, t)) := by
          unfold Hid putJ
          rw [hm, if_neg (by decide), if_neg ht, if_pos (by have := HLN.out; omega)]
        subst hl0
        generalize (bytesRs l).length = n4 at *
        clear hm ht
        go_wp2
        go_ret
        rw [HQ.out]
        exact JPost.same HP.out HJ.out HB.out 0
      · have HQ : Hid (putJ d s t l = ((d.pact 0 s (bytesRs l)).2, (d.pact 0 s (bytesRs l)).1, s, t)) := by
          unfold Hid putJ
          rw [hm, if_neg (by decide), if_neg ht, if_neg (by have := HLN.out; omega)]
        have hl0' : ((n : Int) == 0) = false := by simp; exact hl0
        clear hm ht hl0
        go_upto_region 10 with fail
        refine wp_region_held_drew (S := fun W => W.cell? ⟨jb, 0, none⟩ = some (.pointer (some ⟨g, 0, none⟩)) ∧ W.cell? ⟨jb, 1, none⟩ = some (.int .i64 s)) (by kernel_rfl) (⟨J4.out.cell 0 _ rfl, J4.out.cell 1 _ rfl⟩) (fun hS0 => ?_)
        refine takeInH 0 28 ?v1 rfl rfl (by kernel_rfl) (by kernel_rfl) (by kernel_rfl) (fun _ _ _ h => h) (by kernel_rfl) hS0 ?hy1 ?_
        case hy1 => (intro W hW; clear hW; go_simp; try rfl)
        simp only [Act.put, List.setIfInBounds_toArray, List.set_cons_zero, List.set_cons_succ]
        refine takeInH 1 29 ?v2 rfl rfl (by kernel_rfl) (by kernel_rfl) (by kernel_rfl) (fun _ _ _ h => h) (by kernel_rfl) hS0 ?hy2 ?_
        case hy2 => (intro W hW; clear hW; go_simp; try rfl)
        simp only [Act.put, List.setIfInBounds_toArray, List.set_cons_zero, List.set_cons_succ]
        refine takeInH 2 30 ?v3 rfl rfl (by kernel_rfl) (by kernel_rfl) (by kernel_rfl) (fun _ _ _ h => h) (by kernel_rfl) hS0 ?hy3 ?_
        case hy3 => (intro W hW; clear hW; go_simp; try rfl)
        simp only [Act.put, List.setIfInBounds_toArray, List.set_cons_zero, List.set_cons_succ]
        refine takeInH 3 31 ?v4 rfl rfl (by kernel_rfl) (by kernel_rfl) (by kernel_rfl) (fun _ _ _ h => h) (by kernel_rfl) hS0 ?hy4 ?_
        case hy4 => (intro W hW; have e0 := hW.1; have e1 := hW.2; clear hW; go_simp; try rfl)
        simp only [Act.put, List.setIfInBounds_toArray, List.set_cons_zero, List.set_cons_succ]
        refine takeInH 4 32 ?v5 rfl rfl (by kernel_rfl) (by kernel_rfl) (by kernel_rfl) (fun _ _ _ h => h) (by kernel_rfl) hS0 ?hy5 ?_
        case hy5 => (intro W hW; clear hW; go_simp; try rfl)
        simp only [Act.put, List.setIfInBounds_toArray, List.set_cons_zero, List.set_cons_succ]
        refine takeInH 5 33 ?v6 rfl rfl (by kernel_rfl) (by kernel_rfl) (by kernel_rfl) (fun _ _ _ h => h) (by kernel_rfl) hS0 ?hy6 ?_
        case hy6 => (intro W hW; clear hW; go_simp; try rfl)
        simp only [Act.put, List.setIfInBounds_toArray, List.set_cons_zero, List.set_cons_succ]
        refine takeInH 6 34 ?v7 rfl rfl (by kernel_rfl) (by kernel_rfl) (by kernel_rfl) (fun _ _ _ h => h) (by kernel_rfl) hS0 ?hy7 ?_
        case hy7 => (intro W hW; clear hW; go_simp; try rfl)
        simp only [Act.put, List.setIfInBounds_toArray, List.set_cons_zero, List.set_cons_succ]
        refine takeInH 7 35 ?v8 rfl rfl (by kernel_rfl) (by kernel_rfl) (by kernel_rfl) (fun _ _ _ h => h) (by kernel_rfl) hS0 ?hy8 ?_
        case hy8 => (intro W hW; have e0 := hW.1; have e1 := hW.2; clear hW; go_simp; try rfl)
        simp only [Act.put, List.setIfInBounds_toArray, List.set_cons_zero, List.set_cons_succ]
        refine takeInH 8 36 ?v9 rfl rfl (by kernel_rfl) (by kernel_rfl) (by kernel_rfl) (fun _ _ _ h => h) (by kernel_rfl) hS0 ?hy9 ?_
        case hy9 => (intro W hW; clear hW; go_simp; try rfl)
        simp only [Act.put, List.setIfInBounds_toArray, List.set_cons_zero, List.set_cons_succ]
        refine wpAnyH_ready (rs := [9]) (by kernel_rfl) (by simp) ?_
        refine AllReadyH.cons rfl (fun K hK => ?_) AllReadyH.nil
        go_simp
        refine (Append_any s p4 _ c4 _ _ P4.out.drew A4.out.drew C4.out).mono ?_
        rintro e w5 ⟨va5, vb5, rfl, hp5, hst, hbl⟩
        have J5 := hide (BX.stp J4.out.drew hst (P4.out.notx J4.out (by decide) (by decide)))
        have P5 := hide hp5
        have S5 := hide ((hst.xj jb))
        have L5 := hide hbl
        clear hp5 hst hbl
        refine hK.out _ _ ?hs10 (fun hS1 => ?_)
        case hs10 => exact ⟨J5.out.cell 0 _ rfl, J5.out.cell 1 _ rfl⟩
        clear hK K
        try simp only [Act.put, List.setIfInBounds_toArray, List.set_cons_zero, List.set_cons_succ]
        refine takeInH 10 4 ?v11 rfl rfl (by kernel_rfl) (by kernel_rfl) (by kernel_rfl) (fun _ _ _ h => h) (by kernel_rfl) hS1 ?hy11 ?_
        case hy11 => (intro W hW; clear hW; go_simp; try rfl)
        simp only [Act.put, List.setIfInBounds_toArray, List.set_cons_zero, List.set_cons_succ]
        refine wpAnyH_done (by kernel_rfl) ?_ _
        have HR : Hid (JPost N g jb va vb w ((d.pact 0 s (bytesRs l)).2, (d.pact 0 s (bytesRs l)).1, s, t) (.returned (.int .i64 (d.pact 0 s (bytesRs l)).2)) w5) := JPost.after HB.out HLE.out ⟨va5, vb5, rfl, P5.out, J5.out, (Sp.below (Below.refl _ _).drew).trans S5.out, ((Below.refl _ _).drew).trans L5.out⟩
        go_wp2
        go_ret
        rw [HQ.out]
        exact HR.out
  · have HQ : Hid (putJ d s t l = (1, d, s, t)) := by
      unfold Hid putJ
      rw [if_pos hm]
    have HB := hide hb
    clear hm hb
    go_wp2
    go_ret
    rw [HQ.out]
    exact JPost.same HP.out HJ.out HB.out 1
set_option maxHeartbeats 4000000 in
theorem Sync7_any {N g jb : Nat} {va vb : Value} {d : Dk} {s t : Int} (w : World) (h : PD N g w va vb d) (hs : d.stop = -1) (hj : BJ w jb g s t false) (hN : N ≤ jb) (h01 : s = 0 ∨ s = 1) (ht0 : 0 ≤ t) :
    Calls Try.prog 27 #[.pointer (some ⟨jb, 0, none⟩)] w (JPost N g jb va vb w (synJ d s t)) := by
  have HP := hide h
  have HJ := hide hj
  have a2 := hj.cell 2 _ rfl
  clear h hj hs hN
  by_cases ht : t = 0
  · have HQ : Hid (synJ d s t = (0, d, s, t)) := if_pos ht
    rw [HQ.out]
    have ht' : (t == 0) = true := by simpa using ht
    clear ht
    go_enter Try.func27, Try.ntmps27
    go_wp2_with fail
    refine (Broken_any jb g s t false w HJ.out).mono ?_
    rintro e w1 ⟨rfl, hw⟩
    rw [hw]
    clear hw w1
    go_wp2
    go_ret
    exact JPost.same HP.out HJ.out (Below.refl _ _) 0
  · have HQ : Hid (synJ d s t = ((d.pact 2 s []).2, (d.pact 2 s []).1, s, t)) := if_neg ht
    rw [HQ.out]
    have ht' : (t == 0) = false := by simpa using ht
    clear ht
    go_enter Try.func27, Try.ntmps27
    go_wp2_with fail
    refine (Broken_any jb g s t false w HJ.out).mono ?_
    rintro e w1 ⟨rfl, hw⟩
    rw [hw]
    clear hw w1
    go_upto_region 5 with fail
    refine wp_region_held_drew (S := fun W => W.cell? ⟨jb, 0, none⟩ = some (.pointer (some ⟨g, 0, none⟩)) ∧ W.cell? ⟨jb, 1, none⟩ = some (.int .i64 s)) (by kernel_rfl) (⟨HJ.out.cell 0 _ rfl, HJ.out.cell 1 _ rfl⟩) (fun hS0 => ?_)
    refine takeInH 0 10 ?v12 rfl rfl (by kernel_rfl) (by kernel_rfl) (by kernel_rfl) (fun _ _ _ h => h) (by kernel_rfl) hS0 ?hy12 ?_
    case hy12 => (intro W hW; clear hW; go_simp; try rfl)
    simp only [Act.put, List.setIfInBounds_toArray, List.set_cons_zero, List.set_cons_succ]
    refine takeInH 1 11 ?v13 rfl rfl (by kernel_rfl) (by kernel_rfl) (by kernel_rfl) (fun _ _ _ h => h) (by kernel_rfl) hS0 ?hy13 ?_
    case hy13 => (intro W hW; clear hW; go_simp; try rfl)
    simp only [Act.put, List.setIfInBounds_toArray, List.set_cons_zero, List.set_cons_succ]
    refine takeInH 2 12 ?v14 rfl rfl (by kernel_rfl) (by kernel_rfl) (by kernel_rfl) (fun _ _ _ h => h) (by kernel_rfl) hS0 ?hy14 ?_
    case hy14 => (intro W hW; clear hW; go_simp; try rfl)
    simp only [Act.put, List.setIfInBounds_toArray, List.set_cons_zero, List.set_cons_succ]
    refine takeInH 3 13 ?v15 rfl rfl (by kernel_rfl) (by kernel_rfl) (by kernel_rfl) (fun _ _ _ h => h) (by kernel_rfl) hS0 ?hy15 ?_
    case hy15 => (intro W hW; have e0 := hW.1; have e1 := hW.2; clear hW; go_simp; try rfl)
    simp only [Act.put, List.setIfInBounds_toArray, List.set_cons_zero, List.set_cons_succ]
    refine takeInH 4 14 ?v16 rfl rfl (by kernel_rfl) (by kernel_rfl) (by kernel_rfl) (fun _ _ _ h => h) (by kernel_rfl) hS0 ?hy16 ?_
    case hy16 => (intro W hW; clear hW; go_simp; try rfl)
    simp only [Act.put, List.setIfInBounds_toArray, List.set_cons_zero, List.set_cons_succ]
    refine takeInH 5 15 ?v17 rfl rfl (by kernel_rfl) (by kernel_rfl) (by kernel_rfl) (fun _ _ _ h => h) (by kernel_rfl) hS0 ?hy17 ?_
    case hy17 => (intro W hW; clear hW; go_simp; try rfl)
    simp only [Act.put, List.setIfInBounds_toArray, List.set_cons_zero, List.set_cons_succ]
    refine takeInH 6 16 ?v18 rfl rfl (by kernel_rfl) (by kernel_rfl) (by kernel_rfl) (fun _ _ _ h => h) (by kernel_rfl) hS0 ?hy18 ?_
    case hy18 => (intro W hW; clear hW; go_simp; try rfl)
    simp only [Act.put, List.setIfInBounds_toArray, List.set_cons_zero, List.set_cons_succ]
    refine takeInH 7 17 ?v19 rfl rfl (by kernel_rfl) (by kernel_rfl) (by kernel_rfl) (fun _ _ _ h => h) (by kernel_rfl) hS0 ?hy19 ?_
    case hy19 => (intro W hW; have e0 := hW.1; have e1 := hW.2; clear hW; go_simp; try rfl)
    simp only [Act.put, List.setIfInBounds_toArray, List.set_cons_zero, List.set_cons_succ]
    refine wpAnyH_ready (rs := [8]) (by kernel_rfl) (by simp) ?_
    refine AllReadyH.cons rfl (fun K hK => ?_) AllReadyH.nil
    go_simp
    refine (Sync_any s _ HP.out.drew).mono ?_
    rintro e w5 ⟨va5, vb5, rfl, hp5, hst, hbl⟩
    have J5 := hide (BX.stp HJ.out.drew hst (HP.out.notx HJ.out (by decide) (by decide)))
    have P5 := hide hp5
    have S5 := hide ((hst.xj jb))
    have L5 := hide hbl
    clear hp5 hst hbl
    refine hK.out _ _ ?hs20 (fun hS1 => ?_)
    case hs20 => exact ⟨J5.out.cell 0 _ rfl, J5.out.cell 1 _ rfl⟩
    clear hK K
    try simp only [Act.put, List.setIfInBounds_toArray, List.set_cons_zero, List.set_cons_succ]
    refine takeInH 9 2 ?v21 rfl rfl (by kernel_rfl) (by kernel_rfl) (by kernel_rfl) (fun _ _ _ h => h) (by kernel_rfl) hS1 ?hy21 ?_
    case hy21 => (intro W hW; clear hW; go_simp; try rfl)
    simp only [Act.put, List.setIfInBounds_toArray, List.set_cons_zero, List.set_cons_succ]
    refine wpAnyH_done (by kernel_rfl) ?_ _
    have HR : Hid (JPost N g jb va vb w ((d.pact 2 s []).2, (d.pact 2 s []).1, s, t) (.returned (.int .i64 (d.pact 2 s []).2)) w5) := ⟨va5, vb5, rfl, P5.out, J5.out, (Sp.below (Below.refl _ _).drew).trans S5.out, ((Below.refl _ _).drew).trans L5.out⟩
    go_wp2
    go_ret
    exact HR.out
set_option maxHeartbeats 4000000 in
theorem Renew_any {N g jb : Nat} {va vb : Value} {d : Dk} {s t : Int} (a : Option Addr) (n cap : Nat) (l : List Rc) (w : World) (h : PD N g w va vb d) (hs : d.stop = -1) (hj : BJ w jb g s t false) (hN : N ≤ jb) (h01 : s = 0 ∨ s = 1) (ht0 : 0 ≤ t) (ht1 : t ≤ 1099511627776) (hA : RC w a n l) (hC : CP a n cap) (hbig : (bytesRs l).length ≤ 100000000) :
    Calls Try.prog 28 #[.pointer (some ⟨jb, 0, none⟩), .slice a n cap] w (JPost N g jb va vb w (renJ d s t l)) := by
  have HP := hide h
  have HJ := hide hj
  have HS := hide hs
  have HNJ := hide hN
  have HA := hide hA
  have HBIG := hide hbig
  have HLE := hide h.le
  clear h hj hs hN hA hbig
  go_enter Try.func28, Try.ntmps28
  go_wp2_with fail
  refine (Broken_any jb g s t false w HJ.out).mono ?_
  rintro e w1 ⟨rfl, hw⟩
  rw [hw]
  clear hw w1
  go_wp2_with fail
  refine (bytesOf_any a n cap l _ HA.out HBIG.out).mono ?_
  rintro e w4 ⟨⟨hm, v4, rfl, ho⟩ | ⟨hm, rfl⟩, hb⟩
  · have HB := hide hb
    have P4 := hide (HP.out.below hb)
    have J4 := hide (HJ.out.below hb)
    have hbm : By (bytesRs l) := bytesRs_by ((allMay_iff l).1 hm) HA.out.byB
    obtain ⟨p4, c4, rfl, hb4, hc4⟩ := ho.open hbm
    have C4 := hide hc4
    have X4 := hide (HP.out.fresh ho hb4)
    have a2 := J4.out.cell 2 _ rfl
    clear ho hb hb4 hc4 hbm
    by_cases ht : t = 1099511627776
    · have HQ : Hid (renJ d s t l = (6, d, s, t)) := by
        unfold Hid renJ
        rw [hm, if_neg (by decide), if_pos ht]
      have ht' : (t == 1099511627776) = true := by simpa using ht
      clear ht
      generalize (bytesRs l).length = n4 at *
      clear hm
      go_wp2
      go_ret
      rw [HQ.out]
      exact JPost.same HP.out HJ.out HB.out 6
    · have HQ : Hid (renJ d s t l = rnw d s t (bytesRs l)) := by
        unfold Hid renJ
        rw [hm, if_neg (by decide), if_neg ht]
      have ht' : (t == 1099511627776) = false := by simpa using ht
      have K := hide (renew_any p4 _ c4 (bytesRs l) w4 P4.out HS.out J4.out HNJ.out h01 ht0 (by omega) X4.out C4.out (by have := HBIG.out; omega))
      generalize (bytesRs l).length = n4 at *
      clear hm ht
      go_wp2_with fail
      refine K.out.mono ?_
      rintro e w5 ⟨va5, vb5, rfl, h1, h2, h3, h4⟩
      have HR : Hid (JPost N g jb va vb w (rnw d s t (bytesRs l)) (.returned (.int .i64 (rnw d s t (bytesRs l)).1)) w5) := JPost.after HB.out HLE.out ⟨va5, vb5, rfl, h1, h2, h3, h4⟩
      clear h1 h2 h3 h4
      go_wp2
      go_ret
      rw [HQ.out]
      exact HR.out
  · have HQ : Hid (renJ d s t l = (1, d, s, t)) := by
      unfold Hid renJ
      rw [if_pos hm]
    have HB := hide hb
    clear hm hb
    go_wp2
    go_ret
    rw [HQ.out]
    exact JPost.same HP.out HJ.out HB.out 1
end Go.Proofs.Ytofalfaiamaapaa
