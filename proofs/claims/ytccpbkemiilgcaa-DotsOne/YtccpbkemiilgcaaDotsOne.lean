/- DotsOne is true for every dots, turns and dot: in which order dots are added does not matter; just they are seen; there is one Seen of them. Conditions: none but the form's own. -/
import Derived.Test.YtccpbkemiilgcaaRows
import Derived.WalkKit
import Derived.ProofKit
import Derived.OpenShut
import Derived.ShutString
import Derived.ChangeOld
import Derived.Below
import Derived.SizedLaws
import Derived.Test.YtccpbkemiilgcaaDLaw
import Derived.Test.YtccpbkemiilgcaaDOne
namespace Go.Proofs.Ytccpbkemiilgcaa.dotsOne
open Go.ChangeShapes Go.WideShapes Go.ChangeAt Go.RowKit
set_option linter.unusedVariables false

theorem own : ownKnob Try.prog.godebug = none := by kernel_rfl
theorem laidOut : laidOutB Try.prog = true := by kernel_rfl

set_option maxHeartbeats 16000000 in
set_option maxRecDepth 100000 in
theorem walk (v0 : Value) (v1 : Value) (v2 : Value) (w : World) (w0 : InDs w v0) (w1 : InU w v1) (w2 : InD w v2) :
    Calls Try.prog 5 #[v0, v1, v2] w fun e w' => e = .returned (.bool true) ∧ Below w.heap.size w w' := by
  obtain ⟨pl, n, cap, l, rfl, hL, hCl⟩ := w0
  obtain ⟨pt, nt, ct, tt, rfl, hT, hCt⟩ := w1
  obtain ⟨r, s, rfl⟩ := w2
  have hnx := hL.2.1
  have hntx := hT.2.1
  unfold maxLen at hnx hntx
  have HLs := hide hL
  have HTs := hide hT
  have HCl := hide hCl
  have d0 : (w.alloc (bxD r s)).cell? ⟨w.heap.size, 0, none⟩ = some (.int .i64 r) := cell_new w _ _ _ rfl 0 _ rfl
  have d1 : (w.alloc (bxD r s)).cell? ⟨w.heap.size, 1, none⟩ = some (.int .i64 s) := cell_new w _ _ _ rfl 1 _ rfl
  have HU := hide (bel1 w (bxD r s))
  have HAl := hide (fun W (h : DS W pl n l) => All_any pl n cap l W h)
  have HMy := hide (fun W => MayR_any r s W)
  clear hL hT hCl hCt
  by_cases hn : (n : Int) > 30
  · go_enter Try.func5, Try.ntmps5
    go_wp2_with fail
    refine Calls.mono (awake4 _) ?_
    rintro e u ⟨rfl, hb⟩
    replace d0 := bcell hb d0
    replace d1 := bcell hb d1
    replace HU := hide (bel_next HU.out hb)
    clear hb
    go_wp2
    go_ret
    exact ⟨rfl, HU.out⟩
  · by_cases ht : (nt : Int) > 60
    · go_enter Try.func5, Try.ntmps5
      go_wp2_with fail
      refine Calls.mono (awake4 _) ?_
      rintro e u ⟨rfl, hb⟩
      replace d0 := bcell hb d0
      replace d1 := bcell hb d1
      replace HU := hide (bel_next HU.out hb)
      clear hb
      go_wp2
      go_ret
      exact ⟨rfl, HU.out⟩
    · rcases ha : l.all mayD with _ | _
      · rw [ha] at HAl
        go_enter Try.func5, Try.ntmps5
        go_wp2_with fail
        refine Calls.mono (HAl.out _ (HLs.out.below HU.out)) ?_
        rintro e u ⟨rfl, hb⟩
        replace d0 := bcell hb d0
        replace d1 := bcell hb d1
        replace HU := hide (bel_next HU.out hb)
        clear hb
        go_wp2_with fail
        refine Calls.mono (awake4 _) ?_
        rintro e u ⟨rfl, hb⟩
        replace d0 := bcell hb d0
        replace d1 := bcell hb d1
        replace HU := hide (bel_next HU.out hb)
        clear hb
        go_wp2
        go_ret
        exact ⟨rfl, HU.out⟩
      · rcases hm : mayD (r, s) with _ | _
        · rw [ha] at HAl
          rw [hm] at HMy
          go_enter Try.func5, Try.ntmps5
          go_wp2_with fail
          refine Calls.mono (HAl.out _ (HLs.out.below HU.out)) ?_
          rintro e u ⟨rfl, hb⟩
          replace d0 := bcell hb d0
          replace d1 := bcell hb d1
          replace HU := hide (bel_next HU.out hb)
          clear hb
          go_wp2_with fail
          refine Calls.mono (HMy.out _) ?_
          rintro e u ⟨rfl, hg⟩
          have hb := hg.bel
          replace d0 := bcell hb d0
          replace d1 := bcell hb d1
          replace HU := hide (bel_next HU.out hb)
          clear hb hg
          go_wp2_with fail
          refine Calls.mono (awake4 _) ?_
          rintro e u ⟨rfl, hb⟩
          replace d0 := bcell hb d0
          replace d1 := bcell hb d1
          replace HU := hide (bel_next HU.out hb)
          clear hb
          go_wp2
          go_ret
          exact ⟨rfl, HU.out⟩
        · have HI0 := hide (invO_start ha (by rw [HLs.out.1]; omega))
          have HEnd := hide (fun S => invO_end (S := S) ha)
          rw [ha] at HAl
          rw [hm] at HMy
          have Hm := hide hm
          have Ha := hide ha
          have HIn := hide (fun W (h : DS W pl n l) => In_any pl n cap l (r, s) W h)
          go_enter Try.func5, Try.ntmps5
          go_wp2_with fail
          refine Calls.mono (HAl.out _ (HLs.out.below HU.out)) ?_
          rintro e u ⟨rfl, hb⟩
          replace d0 := bcell hb d0
          replace d1 := bcell hb d1
          replace HU := hide (bel_next HU.out hb)
          clear hb
          go_wp2_with fail
          refine Calls.mono (HMy.out _) ?_
          rintro e u ⟨rfl, hg⟩
          have hb := hg.bel
          replace d0 := bcell hb d0
          replace d1 := bcell hb d1
          replace HU := hide (bel_next HU.out hb)
          clear hb hg
          go_wp2_with fail
          refine Calls.mono (Add_good none none 0 0 0 0 [] [] pl n cap l _ (NS.nil _ _) (DS.nil _ _) (HLs.out.below HU.out) seenB_nil Ha.out (fun _ => rfl) HCl.out.2.2 (by omega)) ?_
          rintro e u ⟨⟨p1, k1, e1, p2, k2, e2, rfl, hns, hcp1, hds, hcp2, _, _⟩, hb⟩
          replace d0 := bcell hb d0
          replace d1 := bcell hb d1
          replace HU := hide (bel_next HU.out hb)
          have NX := hide hns
          have DX := hide hds
          clear hb hns hds hcp1 hcp2
          have x0 : (u.alloc (.cells #[.slice p1 k1 e1, .slice p2 k2 e2] 26)).cell? ⟨u.heap.size, 0, none⟩ = some (.slice p1 k1 e1) := cell_new u _ _ _ rfl 0 _ rfl
          have x1 : (u.alloc (.cells #[.slice p1 k1 e1, .slice p2 k2 e2] 26)).cell? ⟨u.heap.size, 1, none⟩ = some (.slice p2 k2 e2) := cell_new u _ _ _ rfl 1 _ rfl
          replace d0 := bcell (bel1 u (.cells #[.slice p1 k1 e1, .slice p2 k2 e2] 26)) d0
          replace d1 := bcell (bel1 u (.cells #[.slice p1 k1 e1, .slice p2 k2 e2] 26)) d1
          replace NX := hide (NX.out.below (bel1 u (.cells #[.slice p1 k1 e1, .slice p2 k2 e2] 26)))
          replace DX := hide (DX.out.below (bel1 u (.cells #[.slice p1 k1 e1, .slice p2 k2 e2] 26)))
          replace HU := hide (bel_next HU.out (bel1 u (.cells #[.slice p1 k1 e1, .slice p2 k2 e2] 26)))
          go_wp2_with (at_builtin; refine Stop.at ?_)
          unfold Stop
          refine append_dots rfl _ _ rfl (u.alloc (.cells #[.slice p1 k1 e1, .slice p2 k2 e2] 26)).heap.size _ [] l rfl (OwnD.made (u.alloc (.cells #[.slice p1 k1 e1, .slice p2 k2 e2] 26)) _ _ (by simp) (Nat.le_refl _)) pl n cap rfl HCl.out.2.2 ((HLs.out.below HU.out).alloc _) (by have := HLs.out.1; simp; omega) (by simp) ?_
          intro vl u5 hol hbl
          have hb := hbl _ (bel1 (u.alloc (.cells #[.slice p1 k1 e1, .slice p2 k2 e2] 26)) _)
          replace d0 := bcell hb d0
          replace d1 := bcell hb d1
          replace x0 := bcell hb x0
          replace x1 := bcell hb x1
          replace NX := hide (NX.out.below hb)
          replace DX := hide (DX.out.below hb)
          replace HU := hide (bel_next HU.out hb)
          rw [List.nil_append] at hol
          obtain ⟨pa, ca, hvl, hda, hca⟩ := hol.open
          subst hvl
          have HLa := hide hda
          have HCa := hide hca
          have hln := HLs.out.1
          clear hol hbl hb hda hca
          rw [hln] at HLa HCa
          obtain ⟨gx, hgx⟩ : ∃ gx, u.heap.size = gx := ⟨_, rfl⟩
          rw [hgx] at x0 x1
          simp only [hgx]
          clear hgx
          go_wp2
          have hoff0 : Off pa n u5.heap.size := by
            rcases HLa.out.far with h0 | h0
            · exact .inl h0
            · exact .inr fun a ha => Nat.ne_of_lt (h0 a ha)
          have Hoff0 := hide hoff0
          have Hln := hide hln
          clear hoff0 hln
          go_loopw [9, 11] (fun vl vi wr => ∃ (i : Nat) (S : Sn) (left : List Dot) (pb : Option Addr) (nb cb : Nat), vi = .int .i64 i ∧ vl = .slice pb nb cb ∧ i + nb ≤ 30 ∧ Hid (VS u5 S wr) ∧ Hid (DS wr pb nb left) ∧ Hid (CP pb nb cb) ∧ Hid (Off pb nb u5.heap.size) ∧ Hid (InvO l S left)) (fun vl _ _ => lenV vl)
          case atStart => exact ⟨0, (vec [], []), l, pa, n, ca, rfl, by first | rfl | (rw [Hln.out]), by omega, ⟨bel1 _ _, none, 0, 0, none, 0, 0, heap_alloc_new _ _, NS.nil _ _, ⟨Nat.le_refl _, by decide, fun _ => rfl⟩, DS.nil _ _, ⟨Nat.le_refl _, by decide, fun _ => rfl⟩, .inl rfl, .inl rfl⟩, HLa.out.alloc _, HCa.out, Hoff0.out, HI0.out⟩
          case round =>
            obtain ⟨i, S, left, pb, nb, cb, rfl, rfl, hib, HV, HLb, HCb, Hob, HI⟩ := hrel
            have hlb : left.length = nb := HLb.out.1
            have hnb30 : nb ≤ 30 := by omega
            by_cases hpos : 0 < nb
            · rcases HLb.out.2.2 with h0 | ⟨b, off, hpb, hc⟩
              · omega
              · subst hpb
                have hposI : (nb : Int) > 0 := by omega
                have hnz : ¬ ((nb : Int) = 0) := by omega
                by_cases hit : i < nt
                · rcases HTs.out.2.2.2 with h0 | ⟨bt, ot, hpt, hct⟩
                  · omega
                  · subst hpt
                    have y9 := bcell (bel_next HU.out HV.out.1) (hct i hit)
                    have hby := getD_byte HTs.out.2.2.1 i
                    have hitI : (i : Int) < (nt : Int) := by omega
                    generalize tt.getD i 0 = bb at *
                    obtain ⟨kk, hkk, hkn⟩ : ∃ kk : Nat, bb % (nb : Int) = (kk : Int) ∧ kk < nb := by
                      have z1 := Int.emod_nonneg bb hnz
                      have z2 := Int.emod_lt_of_pos bb hposI
                      exact ⟨(bb % (nb : Int)).toNat, by omega, by omega⟩
                    have hkk1 : bb.tmod (nb : Int) = (kk : Int) := by rw [Int.tmod_eq_emod_of_nonneg hby.1]; exact hkk
                    have hwb : wrap64 bb = bb := by unfold wrap64; omega
                    have hk0 : (0 : Int) ≤ (kk : Int) := by omega
                    have hk1 : (kk : Int) < (nb : Int) := by omega
                    clear hct
                    obtain ⟨hB, q1, j1, b1, q2, j2, b2, hg, hns, hcp, hds, hcq, ho1, ho2⟩ := HV.out
                    have w0c : wr.cell? ⟨u5.heap.size, 0, none⟩ = some (.slice q1 j1 b1) := by rw [cell_of_row wr _ _ _ _ _ hg]; rfl
                    have w1c : wr.cell? ⟨u5.heap.size, 1, none⟩ = some (.slice q2 j2 b2) := by rw [cell_of_row wr _ _ _ _ _ hg]; rfl
                    have hsg : u5.heap.size < wr.heap.size := (Array.getElem?_eq_some_iff.1 hg).1
                    have hkl : kk < left.length := by omega
                    have hyc := hc kk hkn
                    have hmx := HI.out.2.2.1 _ (getDot_mem hkl)
                    have HI2 := hide (invO_step HI.out hkl)
                    obtain ⟨x, hx⟩ : ∃ x, left.getD kk (0, 0) = x := ⟨_, rfl⟩
                    rw [hx] at hyc hmx HI2
                    have y0 : wr.cell? ⟨b, off + kk * 2, none⟩ = some (.int .i64 x.1) := by simpa using hyc.1
                    have y1 : wr.cell? ⟨b, off + kk * 2 + 1, none⟩ = some (.int .i64 x.2) := by simpa using hyc.2
                    have hS1 : S.2.length ≤ 1000 := by have := HI.out.2.2.2; omega
                    have hj2 : j2 + 1 ≤ 1000 := by have := HI.out.2.2.2; have := hds.1; omega
                    have hseen := good_seen HI.out.1 hS1
                    have hone := addF_one HI.out.1 hS1 hmx
                    have HAdd := hide (fun G W h1 h2 h3 => Add_good q1 q2 j1 b1 j2 b2 (pln S.1) S.2 (some ⟨G, 0, none⟩) 1 1 [x] W h1 h2 h3 hseen (by simp [hmx]) hcq.2.2 (fun h => by cases h) hj2)
                    rw [hone] at HAdd
                    obtain ⟨S2, hS2⟩ : ∃ S2, S2 = addR S x := ⟨_, rfl⟩
                    rw [← hS2] at HAdd HI2
                    have HNs := hide hns
                    have HDs := hide hds
                    have HBw := hide hB
                    have Hg := hide hg
                    have HCb2 := hide HCb.out
                    have Hkl := hide hkl
                    clear hns hds hB hg hcp hcq ho1 ho2 hmx hseen hone hS2 hS1 hj2 hyc hx HV HI hc hkl
                    obtain ⟨r9, s9⟩ := x
                    go_wp2
                    refine wp_region_held_drew (S := fun W => Below wr.heap.size wr W) (by kernel_rfl) ((Below.refl _ wr).drew) (fun hS0 => ?_)
                    refine takeInH 0 62 ?v1 rfl rfl (by kernel_rfl) (by kernel_rfl) (by kernel_rfl) (fun _ _ _ h => h) (by kernel_rfl) hS0 ?hy1 ?_
                    case hy1 => (intro W hW; have e0 := bcell hW w0c; have e1 := bcell hW w1c; have e2 := bcell hW y0; have e3 := bcell hW y1; clear hW; go_simp; try rfl)
                    simp only [Act.put, List.setIfInBounds_toArray, List.set_cons_zero, List.set_cons_succ]
                    refine takeInH 1 63 ?v2 rfl rfl (by kernel_rfl) (by kernel_rfl) (by kernel_rfl) (fun _ _ _ h => h) (by kernel_rfl) hS0 ?hy2 ?_
                    case hy2 => (intro W hW; clear hW; go_simp; try rfl)
                    simp only [Act.put, List.setIfInBounds_toArray, List.set_cons_zero, List.set_cons_succ]
                    refine takeInH 2 64 ?v3 rfl rfl (by kernel_rfl) (by kernel_rfl) (by kernel_rfl) (fun _ _ _ h => h) (by kernel_rfl) hS0 ?hy3 ?_
                    case hy3 => (intro W hW; clear hW; go_simp; try rfl)
                    simp only [Act.put, List.setIfInBounds_toArray, List.set_cons_zero, List.set_cons_succ]
                    refine takeInH 3 65 ?v4 rfl rfl (by kernel_rfl) (by kernel_rfl) (by kernel_rfl) (fun _ _ _ h => h) (by kernel_rfl) hS0 ?hy4 ?_
                    case hy4 => (intro W hW; clear hW; go_simp; try rfl)
                    simp only [Act.put, List.setIfInBounds_toArray, List.set_cons_zero, List.set_cons_succ]
                    refine takeInH 4 66 ?v5 rfl rfl (by kernel_rfl) (by kernel_rfl) (by kernel_rfl) (fun _ _ _ h => h) (by kernel_rfl) hS0 ?hy5 ?_
                    case hy5 => (intro W hW; have e0 := bcell hW w0c; have e1 := bcell hW w1c; have e2 := bcell hW y0; have e3 := bcell hW y1; clear hW; go_simp; try rfl)
                    simp only [Act.put, List.setIfInBounds_toArray, List.set_cons_zero, List.set_cons_succ]
                    refine wpAnyH_ready (rs := [5, 10]) (by kernel_rfl) (by simp) ?_
                    refine AllReadyH.cons rfl (fun K hK => ?_) (AllReadyH.cons rfl (fun K hK => ?_) AllReadyH.nil)
                    · go_simp
                      have hb : Below wr.heap.size wr (wr.alloc (.cells #[.int .i64 r9, .int .i64 s9] 28)).drew := ((Below.refl _ wr).alloc (Nat.le_refl _) _).drew
                      have hSn := hb
                      (try replace bD := bD.below hb)
                      (try replace RX := hide (RX.out.below hb))
                      (try replace NX2 := hide (NX2.out.below hb))
                      (try replace DX2 := hide (DX2.out.below hb))
                      have bD : DS (wr.alloc (.cells #[.int .i64 r9, .int .i64 s9] 28)).drew (some ⟨wr.heap.size, 0, none⟩) 1 [(r9, s9)] := DS.new wr _ rfl [(r9, s9)] _ rfl _ _ 1 rfl (by decide)
                      clear hb
                      generalize (wr.alloc (.cells #[.int .i64 r9, .int .i64 s9] 28)).drew = W1 at *
                      refine hK.out _ _ ?hs6 (fun hS1 => ?_)
                      case hs6 => exact hSn
                      clear hK K
                      try simp only [Act.put, List.setIfInBounds_toArray, List.set_cons_zero, List.set_cons_succ]
                      refine wpAnyH_ready (rs := [6, 10]) (by kernel_rfl) (by simp) ?_
                      refine AllReadyH.cons rfl (fun K hK => ?_) (AllReadyH.cons rfl (fun K hK => ?_) AllReadyH.nil)
                      · go_simp
                        refine Calls.mono (HAdd.out _ _ (HNs.out.below hS1) (HDs.out.below hS1) bD) ?_
                        rintro e W2 ⟨⟨p3, k3, b3, p4, k4, b4, rfl, hns3, hcp3, hds3, hcp4, hp3, hp4⟩, hb⟩
                        have hSn := bel_next hS1 hb
                        have hszc := hS1.size
                        have HOs : Hid (Off p3 k3 u5.heap.size ∧ Off p4 k4 u5.heap.size) := ⟨.inr fun a ha => by have := hp3 a ha; omega, .inr fun a ha => by have := hp4 a ha; omega⟩
                        clear bD
                        (try replace bD := bD.below hb)
                        (try replace RX := hide (RX.out.below hb))
                        (try replace NX2 := hide (NX2.out.below hb))
                        (try replace DX2 := hide (DX2.out.below hb))
                        have NX2 := hide hns3
                        have DX2 := hide hds3
                        have HC3 := hide hcp3
                        have HC4 := hide hcp4
                        clear hb hns3 hds3 hcp3 hcp4 hp3 hp4 hszc
                        try go_wp2_with fail
                        refine hK.out _ _ ?hs7 (fun hS2 => ?_)
                        case hs7 => exact hSn
                        clear hK K
                        try simp only [Act.put, List.setIfInBounds_toArray, List.set_cons_zero, List.set_cons_succ]
                        refine takeInH 7 61 ?v8 rfl rfl (by kernel_rfl) (by kernel_rfl) (by kernel_rfl) (fun _ _ _ h => h) (by kernel_rfl) hS2 ?hy8 ?_
                        case hy8 => (intro W hW; clear hW; go_simp; try rfl)
                        simp only [Act.put, List.setIfInBounds_toArray, List.set_cons_zero, List.set_cons_succ]
                        refine takeInH 8 69 ?v9 rfl rfl (by kernel_rfl) (by kernel_rfl) (by kernel_rfl) (fun _ _ _ h => h) (by kernel_rfl) hS2 ?hy9 ?_
                        case hy9 => (intro W hW; clear hW; go_simp; try rfl)
                        simp only [Act.put, List.setIfInBounds_toArray, List.set_cons_zero, List.set_cons_succ]
                        refine takeInH 9 70 ?v10 rfl rfl (by kernel_rfl) (by kernel_rfl) (by kernel_rfl) (fun _ _ _ h => h) (by kernel_rfl) hS2 ?hy10 ?_
                        case hy10 => (intro W hW; clear hW; go_simp; try rfl)
                        simp only [Act.put, List.setIfInBounds_toArray, List.set_cons_zero, List.set_cons_succ]
                        refine wpAnyH_ready (rs := [10]) (by kernel_rfl) (by simp) ?_
                        refine AllReadyH.cons rfl (fun K hK => ?_) AllReadyH.nil
                        go_simp
                        have NX0 := NX2
                        have DX0 := DX2
                        have hb := bel1 W2 bxZ
                        have hSn := bel_next hS2 hb
                        (try replace bD := bD.below hb)
                        (try replace RX := hide (RX.out.below hb))
                        (try replace NX2 := hide (NX2.out.below hb))
                        (try replace DX2 := hide (DX2.out.below hb))
                        have HOx : Hid (Off p3 k3 W2.heap.size ∧ Off p4 k4 W2.heap.size) := by
                          constructor
                          · rcases NX0.out.far with h0 | h0
                            · exact .inl h0
                            · exact .inr fun a ha => Nat.ne_of_lt (h0 a ha)
                          · rcases DX0.out.far with h0 | h0
                            · exact .inl h0
                            · exact .inr fun a ha => Nat.ne_of_lt (h0 a ha)
                        have hRx : RC (W2.alloc bxZ) W2.heap.size := heap_alloc_new W2 _
                        have RX := hide hRx
                        clear hRx
                        have hgz : wr.heap.size ≤ W2.heap.size := hS2.size
                        clear hb
                        generalize (W2.alloc bxZ) = W3 at *
                        clear NX0 DX0
                        have e0 := RX.out.cells.1
                        have e1 := RX.out.cells.2.1
                        have z0 := RX.out.cells.2.2.1
                        have z1 := RX.out.cells.2.2.2
                        refine hK.out _ _ ?hs11 (fun hS3 => ?_)
                        case hs11 => exact hSn
                        clear hK K
                        try simp only [Act.put, List.setIfInBounds_toArray, List.set_cons_zero, List.set_cons_succ]
                        refine wpAnyH_ready (rs := [11]) (by kernel_rfl) (by simp) ?_
                        refine AllReadyH.cons rfl (fun K hK => ?_) AllReadyH.nil
                        go_simp
                        refine hK.out _ _ ?hs12 (fun hS4 => ?_)
                        case hs12 => exact ((hS3.setCell (p := ⟨W2.heap.size, 0, none⟩) hgz _).setCell (p := ⟨W2.heap.size, 1, none⟩) hgz _)
                        clear hK K
                        try simp only [Act.put, List.setIfInBounds_toArray, List.set_cons_zero, List.set_cons_succ]
                        refine takeInH 12 14 ?v13 rfl rfl (by kernel_rfl) (by kernel_rfl) (by kernel_rfl) (fun _ _ _ h => h) (by kernel_rfl) hS4 ?hy13 ?_
                        case hy13 => (intro W hW; clear hW; go_simp; try rfl)
                        simp only [Act.put, List.setIfInBounds_toArray, List.set_cons_zero, List.set_cons_succ]
                        refine wpAnyH_done (by kernel_rfl) ?_ _
                        have hGx : ((W3.setCell ⟨W2.heap.size, 0, none⟩ (.slice p3 k3 b3)).setCell ⟨W2.heap.size, 1, none⟩ (.slice p4 k4 b4)).heap[W2.heap.size]? = some (.cells #[.slice p3 k3 b3, .slice p4 k4 b4] 26 (0, 0)) := RX.out.put _ _
                        have X0 : ((W3.setCell ⟨W2.heap.size, 0, none⟩ (.slice p3 k3 b3)).setCell ⟨W2.heap.size, 1, none⟩ (.slice p4 k4 b4)).cell? ⟨W2.heap.size, 0, none⟩ = some (.slice p3 k3 b3) := by rw [cell_of_row _ _ _ _ _ _ hGx]; rfl
                        have X1 : ((W3.setCell ⟨W2.heap.size, 0, none⟩ (.slice p3 k3 b3)).setCell ⟨W2.heap.size, 1, none⟩ (.slice p4 k4 b4)).cell? ⟨W2.heap.size, 1, none⟩ = some (.slice p4 k4 b4) := by rw [cell_of_row _ _ _ _ _ _ hGx]; rfl
                        have NF := hide ((NX2.out.set0 ⟨W2.heap.size, 0, none⟩ (.slice p3 k3 b3) HOx.out.1).set0 ⟨W2.heap.size, 1, none⟩ (.slice p4 k4 b4) HOx.out.1)
                        have DF := hide ((DX2.out.set0 ⟨W2.heap.size, 0, none⟩ (.slice p3 k3 b3) HOx.out.2).set0 ⟨W2.heap.size, 1, none⟩ (.slice p4 k4 b4) HOx.out.2)
                        have gF : ((W3.setCell ⟨W2.heap.size, 0, none⟩ (.slice p3 k3 b3)).setCell ⟨W2.heap.size, 1, none⟩ (.slice p4 k4 b4)).heap[u5.heap.size]? = some (.cells #[.slice q1 j1 b1, .slice q2 j2 b2] 26 (0, 0)) := by rw [hS4.block _ hsg]; exact Hg.out
                        have LF := hide (HLb.out.below hS4)
                        have BF := hide (bel_next HBw.out hS4)
                        have hszf : u5.heap.size < ((W3.setCell ⟨W2.heap.size, 0, none⟩ (.slice p3 k3 b3)).setCell ⟨W2.heap.size, 1, none⟩ (.slice p4 k4 b4)).heap.size := Nat.lt_of_lt_of_le hsg hS4.size
                        clear hGx RX NX2 DX2 HOx e0 e1 z0 z1 hgz hS0 hS1 hS2 hS3 hS4
                        generalize ((W3.setCell ⟨W2.heap.size, 0, none⟩ (.slice p3 k3 b3)).setCell ⟨W2.heap.size, 1, none⟩ (.slice p4 k4 b4)) = uf at *
                        have a0 : uf.cell? ⟨u5.heap.size, 0, none⟩ = some (.slice q1 j1 b1) := by rw [cell_of_row uf _ _ _ _ _ gF]; rfl
                        have a1 : uf.cell? ⟨u5.heap.size, 1, none⟩ = some (.slice q2 j2 b2) := by rw [cell_of_row uf _ _ _ _ _ gF]; rfl
                        have z0 : uf.frozen? ⟨u5.heap.size, 0, none⟩ = false := by simp [World.frozen?, gF]
                        have z1 : uf.frozen? ⟨u5.heap.size, 1, none⟩ = false := by simp [World.frozen?, gF]
                        have HV2 := hide (VS.put BF.out gF NF.out HC3.out DF.out HC4.out HOs.out.1 HOs.out.2)
                        have LG := hide ((LF.out.set0 ⟨u5.heap.size, 0, none⟩ (.slice p3 k3 b3) Hob.out).set0 ⟨u5.heap.size, 1, none⟩ (.slice p4 k4 b4) Hob.out)
                        have hszg : u5.heap.size < ((uf.setCell ⟨u5.heap.size, 0, none⟩ (.slice p3 k3 b3)).setCell ⟨u5.heap.size, 1, none⟩ (.slice p4 k4 b4)).heap.size := by simpa [World.setCell] using hszf
                        clear gF
                        go_wp2
                        clear a0 a1 z0 z1 X0 X1 NF DF BF
                        generalize (uf.setCell ⟨u5.heap.size, 0, none⟩ (.slice p3 k3 b3)).setCell ⟨u5.heap.size, 1, none⟩ (.slice p4 k4 b4) = ug at *
                        have hkI : (kk : Int) ≤ (cb : Int) := by have := HCb2.out.1; omega
                        have hkJ : (kk : Int) + 1 ≤ (nb : Int) := by omega
                        have hkC : (kk : Int) + 1 ≤ (cb : Int) := by have := HCb2.out.1; omega
                        have hnC : (nb : Int) ≤ (cb : Int) := by have := HCb2.out.1; omega
                        have hwk := wrap1 (z := (kk : Int)) (by omega) (by omega)
                        have hlt30 : left.length ≤ 30 := by have := LG.out.1; omega
                        by_cases hcb : cb = kk + 1
                        · have HD2 : Hid (DS ug (some ⟨b, off, none⟩) 0 (left.drop (kk + 1))) := ⟨by rw [List.length_drop, LG.out.1]; have := HCb2.out.1; omega, by decide, .inl rfl⟩
                          subst hcb
                          have hkq : (kk : Int) ≤ (kk : Int) + 1 := by omega
                          have hnq : (nb : Int) ≤ (kk : Int) + 1 := by omega
                          have hnq2 : nb = kk + 1 := by omega
                          have hnq3 : nb - (kk + 1) = 0 := by omega
                          clear hnq2
                          refine wp_region_held_drew (S := fun W => Below ug.heap.size ug W) (by kernel_rfl) ((Below.refl _ ug).drew) (fun hS0 => ?_)
                          refine takeInH 1 75 ?v14 rfl rfl (by kernel_rfl) (by kernel_rfl) (by kernel_rfl) (fun _ _ _ h => h) (by kernel_rfl) hS0 ?hy14 ?_
                          case hy14 => (intro W hW; clear hW; go_simp; try rfl)
                          simp only [Act.put, List.setIfInBounds_toArray, List.set_cons_zero, List.set_cons_succ]
                          refine takeInH 2 76 ?v15 rfl rfl (by kernel_rfl) (by kernel_rfl) (by kernel_rfl) (fun _ _ _ h => h) (by kernel_rfl) hS0 ?hy15 ?_
                          case hy15 => (intro W hW; clear hW; go_simp; try rfl)
                          simp only [Act.put, List.setIfInBounds_toArray, List.set_cons_zero, List.set_cons_succ]
                          refine takeInH 3 77 ?v16 rfl rfl (by kernel_rfl) (by kernel_rfl) (by kernel_rfl) (fun _ _ _ h => h) (by kernel_rfl) hS0 ?hy16 ?_
                          case hy16 => (intro W hW; clear hW; go_simp; try rfl)
                          simp only [Act.put, List.setIfInBounds_toArray, List.set_cons_zero, List.set_cons_succ]
                          refine takeInH 5 79 ?v17 rfl rfl (by kernel_rfl) (by kernel_rfl) (by kernel_rfl) (fun _ _ _ h => h) (by kernel_rfl) hS0 ?hy17 ?_
                          case hy17 => (intro W hW; clear hW; go_simp; try rfl)
                          simp only [Act.put, List.setIfInBounds_toArray, List.set_cons_zero, List.set_cons_succ]
                          refine takeInH 6 80 ?v18 rfl rfl (by kernel_rfl) (by kernel_rfl) (by kernel_rfl) (fun _ _ _ h => h) (by kernel_rfl) hS0 ?hy18 ?_
                          case hy18 => (intro W hW; clear hW; go_simp; try rfl)
                          simp only [Act.put, List.setIfInBounds_toArray, List.set_cons_zero, List.set_cons_succ]
                          refine takeInH 7 81 ?v19 rfl rfl (by kernel_rfl) (by kernel_rfl) (by kernel_rfl) (fun _ _ _ h => h) (by kernel_rfl) hS0 ?hy19 ?_
                          case hy19 => (intro W hW; clear hW; go_simp; try rfl)
                          simp only [Act.put, List.setIfInBounds_toArray, List.set_cons_zero, List.set_cons_succ]
                          refine takeInH 8 82 ?v20 rfl rfl (by kernel_rfl) (by kernel_rfl) (by kernel_rfl) (fun _ _ _ h => h) (by kernel_rfl) hS0 ?hy20 ?_
                          case hy20 => (intro W hW; clear hW; go_simp; try rfl)
                          simp only [Act.put, List.setIfInBounds_toArray, List.set_cons_zero, List.set_cons_succ]
                          refine wpAnyH_ready (rs := [0]) (by kernel_rfl) (by simp) ?_
                          refine AllReadyH.cons rfl (fun K hK => ?_) AllReadyH.nil
                          go_simp
                          have hSn : Below ug.heap.size ug (ug.alloc (.cells #[] 28)).drew := ((Below.refl _ ug).alloc (Nat.le_refl _) _).drew
                          have HO0 := hide (OwnD.made ug ug.heap.size ug.heap.size rfl (Nat.le_refl _)).drew
                          generalize (ug.alloc (.cells #[] 28)).drew = Z1 at *
                          refine hK.out _ _ ?hs21 (fun hS1 => ?_)
                          case hs21 => exact hSn
                          clear hK K
                          try simp only [Act.put, List.setIfInBounds_toArray, List.set_cons_zero, List.set_cons_succ]
                          refine wpAnyH_ready (rs := [4]) (by kernel_rfl) (by simp) ?_
                          refine AllReadyH.cons rfl (fun K hK => ?_) AllReadyH.nil
                          rw [if_pos (by kernel_rfl)]
                          refine append_wp _ _ rfl ug.heap.size _ [] (left.take kk) rfl HO0.out (some ⟨b, off, none⟩) kk _ rfl (fun h => by cases h) ((LG.out.head kk (by omega)).below hS1) (by rw [List.length_take]; simp <;> omega) hS1.size ?_
                          intro v1 Z2 ho1 hb1
                          rw [List.nil_append] at ho1
                          have HO1 := hide ho1
                          have hSm := hb1 _ hS1
                          clear ho1 hb1 HO0
                          change K (Act.put _ (some 78) _) _
                          refine hK.out _ _ ?hs22 (fun hS2 => ?_)
                          case hs22 => exact hSm
                          clear hK K
                          try simp only [Act.put, List.setIfInBounds_toArray, List.set_cons_zero, List.set_cons_succ]
                          refine wpAnyH_ready (rs := [9]) (by kernel_rfl) (by simp) ?_
                          refine AllReadyH.cons rfl (fun K hK => ?_) AllReadyH.nil
                          rw [if_pos (by kernel_rfl)]
                          refine append_wp _ _ rfl ug.heap.size _ (left.take kk) (left.drop (kk + 1)) rfl HO1.out _ _ _ rfl (fun h => by cases h) (HD2.out.below hS2) (by rw [List.length_take, List.length_drop]; omega) hS2.size ?_
                          intro v2 Z3 ho2 hb2
                          obtain ⟨pz, cz, hvz, hdz, hcz⟩ := ho2.open
                          obtain ⟨nz, hnz2⟩ : ∃ nz, nz = (left.take kk ++ left.drop (kk + 1)).length := ⟨_, rfl⟩
                          rw [← hnz2] at hvz hdz hcz
                          subst hvz
                          have hoz : Off pz nz u5.heap.size := .inr fun a ha => by have := OwnD.blk ho2 a ha; omega
                          have hnz3 : nz + 1 = nb := by rw [hnz2, List.length_append, List.length_take, List.length_drop]; have := LG.out.1; omega
                          have HDz := hide hdz
                          have HCz := hide hcz
                          have HOz := hide hoz
                          have hSm := hb2 _ hS2
                          clear ho2 hb2 hdz hcz hoz hnz2
                          change K (Act.put _ (some 83) _) _
                          refine hK.out _ _ ?hs23 (fun hS3 => ?_)
                          case hs23 => exact hSm
                          clear hK K
                          try simp only [Act.put, List.setIfInBounds_toArray, List.set_cons_zero, List.set_cons_succ]
                          refine takeInH 10 9 ?v24 rfl rfl (by kernel_rfl) (by kernel_rfl) (by kernel_rfl) (fun _ _ _ h => h) (by kernel_rfl) hS3 ?hy24 ?_
                          case hy24 => (intro W hW; clear hW; go_simp; try rfl)
                          simp only [Act.put, List.setIfInBounds_toArray, List.set_cons_zero, List.set_cons_succ]
                          refine wpAnyH_done (by kernel_rfl) ?_ _
                          have HV3 := hide (HV2.out.below hS3)
                          go_wp2
                          go_roundw
                          case rel => exact ⟨i + 1, S2, _, pz, nz, cz, by go_num, rfl, by omega, HV3, HDz, HCz, HOz, HI2⟩
                          case measure => simp [lenV]; omega
                        · have HD2 : Hid (DS ug (some ⟨b, off + (kk + 1) * 2, none⟩) (nb - (kk + 1)) (left.drop (kk + 1))) := by
                            rcases Nat.lt_or_ge (kk + 1) nb with h0 | h0
                            · exact LG.out.mid (kk + 1) h0
                            · exact ⟨by rw [List.length_drop, LG.out.1], by have := HCb2.out.2.1; have := HCb2.out.1; omega, .inl (by omega)⟩
                          refine wp_region_held_drew (S := fun W => Below ug.heap.size ug W) (by kernel_rfl) ((Below.refl _ ug).drew) (fun hS0 => ?_)
                          refine takeInH 1 75 ?v25 rfl rfl (by kernel_rfl) (by kernel_rfl) (by kernel_rfl) (fun _ _ _ h => h) (by kernel_rfl) hS0 ?hy25 ?_
                          case hy25 => (intro W hW; clear hW; go_simp; try rfl)
                          simp only [Act.put, List.setIfInBounds_toArray, List.set_cons_zero, List.set_cons_succ]
                          refine takeInH 2 76 ?v26 rfl rfl (by kernel_rfl) (by kernel_rfl) (by kernel_rfl) (fun _ _ _ h => h) (by kernel_rfl) hS0 ?hy26 ?_
                          case hy26 => (intro W hW; clear hW; go_simp; try rfl)
                          simp only [Act.put, List.setIfInBounds_toArray, List.set_cons_zero, List.set_cons_succ]
                          refine takeInH 3 77 ?v27 rfl rfl (by kernel_rfl) (by kernel_rfl) (by kernel_rfl) (fun _ _ _ h => h) (by kernel_rfl) hS0 ?hy27 ?_
                          case hy27 => (intro W hW; clear hW; go_simp; try rfl)
                          simp only [Act.put, List.setIfInBounds_toArray, List.set_cons_zero, List.set_cons_succ]
                          refine takeInH 5 79 ?v28 rfl rfl (by kernel_rfl) (by kernel_rfl) (by kernel_rfl) (fun _ _ _ h => h) (by kernel_rfl) hS0 ?hy28 ?_
                          case hy28 => (intro W hW; clear hW; go_simp; try rfl)
                          simp only [Act.put, List.setIfInBounds_toArray, List.set_cons_zero, List.set_cons_succ]
                          refine takeInH 6 80 ?v29 rfl rfl (by kernel_rfl) (by kernel_rfl) (by kernel_rfl) (fun _ _ _ h => h) (by kernel_rfl) hS0 ?hy29 ?_
                          case hy29 => (intro W hW; clear hW; go_simp; try rfl)
                          simp only [Act.put, List.setIfInBounds_toArray, List.set_cons_zero, List.set_cons_succ]
                          refine takeInH 7 81 ?v30 rfl rfl (by kernel_rfl) (by kernel_rfl) (by kernel_rfl) (fun _ _ _ h => h) (by kernel_rfl) hS0 ?hy30 ?_
                          case hy30 => (intro W hW; clear hW; go_simp; try rfl)
                          simp only [Act.put, List.setIfInBounds_toArray, List.set_cons_zero, List.set_cons_succ]
                          refine takeInH 8 82 ?v31 rfl rfl (by kernel_rfl) (by kernel_rfl) (by kernel_rfl) (fun _ _ _ h => h) (by kernel_rfl) hS0 ?hy31 ?_
                          case hy31 => (intro W hW; clear hW; go_simp; try rfl)
                          simp only [Act.put, List.setIfInBounds_toArray, List.set_cons_zero, List.set_cons_succ]
                          refine wpAnyH_ready (rs := [0]) (by kernel_rfl) (by simp) ?_
                          refine AllReadyH.cons rfl (fun K hK => ?_) AllReadyH.nil
                          go_simp
                          have hSn : Below ug.heap.size ug (ug.alloc (.cells #[] 28)).drew := ((Below.refl _ ug).alloc (Nat.le_refl _) _).drew
                          have HO0 := hide (OwnD.made ug ug.heap.size ug.heap.size rfl (Nat.le_refl _)).drew
                          generalize (ug.alloc (.cells #[] 28)).drew = Z1 at *
                          refine hK.out _ _ ?hs32 (fun hS1 => ?_)
                          case hs32 => exact hSn
                          clear hK K
                          try simp only [Act.put, List.setIfInBounds_toArray, List.set_cons_zero, List.set_cons_succ]
                          refine wpAnyH_ready (rs := [4]) (by kernel_rfl) (by simp) ?_
                          refine AllReadyH.cons rfl (fun K hK => ?_) AllReadyH.nil
                          rw [if_pos (by kernel_rfl)]
                          refine append_wp _ _ rfl ug.heap.size _ [] (left.take kk) rfl HO0.out (some ⟨b, off, none⟩) kk _ rfl (fun h => by cases h) ((LG.out.head kk (by omega)).below hS1) (by rw [List.length_take]; simp <;> omega) hS1.size ?_
                          intro v1 Z2 ho1 hb1
                          rw [List.nil_append] at ho1
                          have HO1 := hide ho1
                          have hSm := hb1 _ hS1
                          clear ho1 hb1 HO0
                          change K (Act.put _ (some 78) _) _
                          refine hK.out _ _ ?hs33 (fun hS2 => ?_)
                          case hs33 => exact hSm
                          clear hK K
                          try simp only [Act.put, List.setIfInBounds_toArray, List.set_cons_zero, List.set_cons_succ]
                          refine wpAnyH_ready (rs := [9]) (by kernel_rfl) (by simp) ?_
                          refine AllReadyH.cons rfl (fun K hK => ?_) AllReadyH.nil
                          rw [if_pos (by kernel_rfl)]
                          refine append_wp _ _ rfl ug.heap.size _ (left.take kk) (left.drop (kk + 1)) rfl HO1.out _ _ _ rfl (fun h => by cases h) (HD2.out.below hS2) (by rw [List.length_take, List.length_drop]; omega) hS2.size ?_
                          intro v2 Z3 ho2 hb2
                          obtain ⟨pz, cz, hvz, hdz, hcz⟩ := ho2.open
                          obtain ⟨nz, hnz2⟩ : ∃ nz, nz = (left.take kk ++ left.drop (kk + 1)).length := ⟨_, rfl⟩
                          rw [← hnz2] at hvz hdz hcz
                          subst hvz
                          have hoz : Off pz nz u5.heap.size := .inr fun a ha => by have := OwnD.blk ho2 a ha; omega
                          have hnz3 : nz + 1 = nb := by rw [hnz2, List.length_append, List.length_take, List.length_drop]; have := LG.out.1; omega
                          have HDz := hide hdz
                          have HCz := hide hcz
                          have HOz := hide hoz
                          have hSm := hb2 _ hS2
                          clear ho2 hb2 hdz hcz hoz hnz2
                          change K (Act.put _ (some 83) _) _
                          refine hK.out _ _ ?hs34 (fun hS3 => ?_)
                          case hs34 => exact hSm
                          clear hK K
                          try simp only [Act.put, List.setIfInBounds_toArray, List.set_cons_zero, List.set_cons_succ]
                          refine takeInH 10 9 ?v35 rfl rfl (by kernel_rfl) (by kernel_rfl) (by kernel_rfl) (fun _ _ _ h => h) (by kernel_rfl) hS3 ?hy35 ?_
                          case hy35 => (intro W hW; clear hW; go_simp; try rfl)
                          simp only [Act.put, List.setIfInBounds_toArray, List.set_cons_zero, List.set_cons_succ]
                          refine wpAnyH_done (by kernel_rfl) ?_ _
                          have HV3 := hide (HV2.out.below hS3)
                          go_wp2
                          go_roundw
                          case rel => exact ⟨i + 1, S2, _, pz, nz, cz, by go_num, rfl, by omega, HV3, HDz, HCz, HOz, HI2⟩
                          case measure => simp [lenV]; omega
                      · go_simp
                        have hb := bel1 W1 bxZ
                        have hSn := bel_next hS1 hb
                        (try replace bD := bD.below hb)
                        (try replace RX := hide (RX.out.below hb))
                        (try replace NX2 := hide (NX2.out.below hb))
                        (try replace DX2 := hide (DX2.out.below hb))
                        have hRx : RC (W1.alloc bxZ) W1.heap.size := heap_alloc_new W1 _
                        have RX := hide hRx
                        clear hRx
                        have hgz : wr.heap.size ≤ W1.heap.size := hS1.size
                        clear hb
                        generalize (W1.alloc bxZ) = W2 at *
                        refine hK.out _ _ ?hs36 (fun hS2 => ?_)
                        case hs36 => exact hSn
                        clear hK K
                        try simp only [Act.put, List.setIfInBounds_toArray, List.set_cons_zero, List.set_cons_succ]
                        refine wpAnyH_ready (rs := [6]) (by kernel_rfl) (by simp) ?_
                        refine AllReadyH.cons rfl (fun K hK => ?_) AllReadyH.nil
                        go_simp
                        refine Calls.mono (HAdd.out _ _ (HNs.out.below hS2) (HDs.out.below hS2) bD) ?_
                        rintro e W3 ⟨⟨p3, k3, b3, p4, k4, b4, rfl, hns3, hcp3, hds3, hcp4, hp3, hp4⟩, hb⟩
                        have hSn := bel_next hS2 hb
                        have hszc := hS2.size
                        have HOs : Hid (Off p3 k3 u5.heap.size ∧ Off p4 k4 u5.heap.size) := ⟨.inr fun a ha => by have := hp3 a ha; omega, .inr fun a ha => by have := hp4 a ha; omega⟩
                        have HOx : Hid (Off p3 k3 W1.heap.size ∧ Off p4 k4 W1.heap.size) := by
                          have hz := RX.out.size
                          exact ⟨.inr fun a ha => by have := hp3 a ha; omega, .inr fun a ha => by have := hp4 a ha; omega⟩
                        clear bD
                        (try replace bD := bD.below hb)
                        (try replace RX := hide (RX.out.below hb))
                        (try replace NX2 := hide (NX2.out.below hb))
                        (try replace DX2 := hide (DX2.out.below hb))
                        have NX2 := hide hns3
                        have DX2 := hide hds3
                        have HC3 := hide hcp3
                        have HC4 := hide hcp4
                        clear hb hns3 hds3 hcp3 hcp4 hp3 hp4 hszc
                        have e0 := RX.out.cells.1
                        have e1 := RX.out.cells.2.1
                        have z0 := RX.out.cells.2.2.1
                        have z1 := RX.out.cells.2.2.2
                        try go_wp2_with fail
                        refine hK.out _ _ ?hs37 (fun hS3 => ?_)
                        case hs37 => exact hSn
                        clear hK K
                        try simp only [Act.put, List.setIfInBounds_toArray, List.set_cons_zero, List.set_cons_succ]
                        refine takeInH 7 61 ?v38 rfl rfl (by kernel_rfl) (by kernel_rfl) (by kernel_rfl) (fun _ _ _ h => h) (by kernel_rfl) hS3 ?hy38 ?_
                        case hy38 => (intro W hW; clear hW; go_simp; try rfl)
                        simp only [Act.put, List.setIfInBounds_toArray, List.set_cons_zero, List.set_cons_succ]
                        refine takeInH 8 69 ?v39 rfl rfl (by kernel_rfl) (by kernel_rfl) (by kernel_rfl) (fun _ _ _ h => h) (by kernel_rfl) hS3 ?hy39 ?_
                        case hy39 => (intro W hW; clear hW; go_simp; try rfl)
                        simp only [Act.put, List.setIfInBounds_toArray, List.set_cons_zero, List.set_cons_succ]
                        refine takeInH 9 70 ?v40 rfl rfl (by kernel_rfl) (by kernel_rfl) (by kernel_rfl) (fun _ _ _ h => h) (by kernel_rfl) hS3 ?hy40 ?_
                        case hy40 => (intro W hW; clear hW; go_simp; try rfl)
                        simp only [Act.put, List.setIfInBounds_toArray, List.set_cons_zero, List.set_cons_succ]
                        refine wpAnyH_ready (rs := [11]) (by kernel_rfl) (by simp) ?_
                        refine AllReadyH.cons rfl (fun K hK => ?_) AllReadyH.nil
                        go_simp
                        refine hK.out _ _ ?hs41 (fun hS4 => ?_)
                        case hs41 => exact ((hS3.setCell (p := ⟨W1.heap.size, 0, none⟩) hgz _).setCell (p := ⟨W1.heap.size, 1, none⟩) hgz _)
                        clear hK K
                        try simp only [Act.put, List.setIfInBounds_toArray, List.set_cons_zero, List.set_cons_succ]
                        refine takeInH 12 14 ?v42 rfl rfl (by kernel_rfl) (by kernel_rfl) (by kernel_rfl) (fun _ _ _ h => h) (by kernel_rfl) hS4 ?hy42 ?_
                        case hy42 => (intro W hW; clear hW; go_simp; try rfl)
                        simp only [Act.put, List.setIfInBounds_toArray, List.set_cons_zero, List.set_cons_succ]
                        refine wpAnyH_done (by kernel_rfl) ?_ _
                        have hGx : ((W3.setCell ⟨W1.heap.size, 0, none⟩ (.slice p3 k3 b3)).setCell ⟨W1.heap.size, 1, none⟩ (.slice p4 k4 b4)).heap[W1.heap.size]? = some (.cells #[.slice p3 k3 b3, .slice p4 k4 b4] 26 (0, 0)) := RX.out.put _ _
                        have X0 : ((W3.setCell ⟨W1.heap.size, 0, none⟩ (.slice p3 k3 b3)).setCell ⟨W1.heap.size, 1, none⟩ (.slice p4 k4 b4)).cell? ⟨W1.heap.size, 0, none⟩ = some (.slice p3 k3 b3) := by rw [cell_of_row _ _ _ _ _ _ hGx]; rfl
                        have X1 : ((W3.setCell ⟨W1.heap.size, 0, none⟩ (.slice p3 k3 b3)).setCell ⟨W1.heap.size, 1, none⟩ (.slice p4 k4 b4)).cell? ⟨W1.heap.size, 1, none⟩ = some (.slice p4 k4 b4) := by rw [cell_of_row _ _ _ _ _ _ hGx]; rfl
                        have NF := hide ((NX2.out.set0 ⟨W1.heap.size, 0, none⟩ (.slice p3 k3 b3) HOx.out.1).set0 ⟨W1.heap.size, 1, none⟩ (.slice p4 k4 b4) HOx.out.1)
                        have DF := hide ((DX2.out.set0 ⟨W1.heap.size, 0, none⟩ (.slice p3 k3 b3) HOx.out.2).set0 ⟨W1.heap.size, 1, none⟩ (.slice p4 k4 b4) HOx.out.2)
                        have gF : ((W3.setCell ⟨W1.heap.size, 0, none⟩ (.slice p3 k3 b3)).setCell ⟨W1.heap.size, 1, none⟩ (.slice p4 k4 b4)).heap[u5.heap.size]? = some (.cells #[.slice q1 j1 b1, .slice q2 j2 b2] 26 (0, 0)) := by rw [hS4.block _ hsg]; exact Hg.out
                        have LF := hide (HLb.out.below hS4)
                        have BF := hide (bel_next HBw.out hS4)
                        have hszf : u5.heap.size < ((W3.setCell ⟨W1.heap.size, 0, none⟩ (.slice p3 k3 b3)).setCell ⟨W1.heap.size, 1, none⟩ (.slice p4 k4 b4)).heap.size := Nat.lt_of_lt_of_le hsg hS4.size
                        clear hGx RX NX2 DX2 HOx e0 e1 z0 z1 hgz hS0 hS1 hS2 hS3 hS4
                        generalize ((W3.setCell ⟨W1.heap.size, 0, none⟩ (.slice p3 k3 b3)).setCell ⟨W1.heap.size, 1, none⟩ (.slice p4 k4 b4)) = uf at *
                        have a0 : uf.cell? ⟨u5.heap.size, 0, none⟩ = some (.slice q1 j1 b1) := by rw [cell_of_row uf _ _ _ _ _ gF]; rfl
                        have a1 : uf.cell? ⟨u5.heap.size, 1, none⟩ = some (.slice q2 j2 b2) := by rw [cell_of_row uf _ _ _ _ _ gF]; rfl
                        have z0 : uf.frozen? ⟨u5.heap.size, 0, none⟩ = false := by simp [World.frozen?, gF]
                        have z1 : uf.frozen? ⟨u5.heap.size, 1, none⟩ = false := by simp [World.frozen?, gF]
                        have HV2 := hide (VS.put BF.out gF NF.out HC3.out DF.out HC4.out HOs.out.1 HOs.out.2)
                        have LG := hide ((LF.out.set0 ⟨u5.heap.size, 0, none⟩ (.slice p3 k3 b3) Hob.out).set0 ⟨u5.heap.size, 1, none⟩ (.slice p4 k4 b4) Hob.out)
                        have hszg : u5.heap.size < ((uf.setCell ⟨u5.heap.size, 0, none⟩ (.slice p3 k3 b3)).setCell ⟨u5.heap.size, 1, none⟩ (.slice p4 k4 b4)).heap.size := by simpa [World.setCell] using hszf
                        clear gF
                        go_wp2
                        clear a0 a1 z0 z1 X0 X1 NF DF BF
                        generalize (uf.setCell ⟨u5.heap.size, 0, none⟩ (.slice p3 k3 b3)).setCell ⟨u5.heap.size, 1, none⟩ (.slice p4 k4 b4) = ug at *
                        have hkI : (kk : Int) ≤ (cb : Int) := by have := HCb2.out.1; omega
                        have hkJ : (kk : Int) + 1 ≤ (nb : Int) := by omega
                        have hkC : (kk : Int) + 1 ≤ (cb : Int) := by have := HCb2.out.1; omega
                        have hnC : (nb : Int) ≤ (cb : Int) := by have := HCb2.out.1; omega
                        have hwk := wrap1 (z := (kk : Int)) (by omega) (by omega)
                        have hlt30 : left.length ≤ 30 := by have := LG.out.1; omega
                        by_cases hcb : cb = kk + 1
                        · have HD2 : Hid (DS ug (some ⟨b, off, none⟩) 0 (left.drop (kk + 1))) := ⟨by rw [List.length_drop, LG.out.1]; have := HCb2.out.1; omega, by decide, .inl rfl⟩
                          subst hcb
                          have hkq : (kk : Int) ≤ (kk : Int) + 1 := by omega
                          have hnq : (nb : Int) ≤ (kk : Int) + 1 := by omega
                          have hnq2 : nb = kk + 1 := by omega
                          have hnq3 : nb - (kk + 1) = 0 := by omega
                          clear hnq2
                          refine wp_region_held_drew (S := fun W => Below ug.heap.size ug W) (by kernel_rfl) ((Below.refl _ ug).drew) (fun hS0 => ?_)
                          refine takeInH 1 75 ?v43 rfl rfl (by kernel_rfl) (by kernel_rfl) (by kernel_rfl) (fun _ _ _ h => h) (by kernel_rfl) hS0 ?hy43 ?_
                          case hy43 => (intro W hW; clear hW; go_simp; try rfl)
                          simp only [Act.put, List.setIfInBounds_toArray, List.set_cons_zero, List.set_cons_succ]
                          refine takeInH 2 76 ?v44 rfl rfl (by kernel_rfl) (by kernel_rfl) (by kernel_rfl) (fun _ _ _ h => h) (by kernel_rfl) hS0 ?hy44 ?_
                          case hy44 => (intro W hW; clear hW; go_simp; try rfl)
                          simp only [Act.put, List.setIfInBounds_toArray, List.set_cons_zero, List.set_cons_succ]
                          refine takeInH 3 77 ?v45 rfl rfl (by kernel_rfl) (by kernel_rfl) (by kernel_rfl) (fun _ _ _ h => h) (by kernel_rfl) hS0 ?hy45 ?_
                          case hy45 => (intro W hW; clear hW; go_simp; try rfl)
                          simp only [Act.put, List.setIfInBounds_toArray, List.set_cons_zero, List.set_cons_succ]
                          refine takeInH 5 79 ?v46 rfl rfl (by kernel_rfl) (by kernel_rfl) (by kernel_rfl) (fun _ _ _ h => h) (by kernel_rfl) hS0 ?hy46 ?_
                          case hy46 => (intro W hW; clear hW; go_simp; try rfl)
                          simp only [Act.put, List.setIfInBounds_toArray, List.set_cons_zero, List.set_cons_succ]
                          refine takeInH 6 80 ?v47 rfl rfl (by kernel_rfl) (by kernel_rfl) (by kernel_rfl) (fun _ _ _ h => h) (by kernel_rfl) hS0 ?hy47 ?_
                          case hy47 => (intro W hW; clear hW; go_simp; try rfl)
                          simp only [Act.put, List.setIfInBounds_toArray, List.set_cons_zero, List.set_cons_succ]
                          refine takeInH 7 81 ?v48 rfl rfl (by kernel_rfl) (by kernel_rfl) (by kernel_rfl) (fun _ _ _ h => h) (by kernel_rfl) hS0 ?hy48 ?_
                          case hy48 => (intro W hW; clear hW; go_simp; try rfl)
                          simp only [Act.put, List.setIfInBounds_toArray, List.set_cons_zero, List.set_cons_succ]
                          refine takeInH 8 82 ?v49 rfl rfl (by kernel_rfl) (by kernel_rfl) (by kernel_rfl) (fun _ _ _ h => h) (by kernel_rfl) hS0 ?hy49 ?_
                          case hy49 => (intro W hW; clear hW; go_simp; try rfl)
                          simp only [Act.put, List.setIfInBounds_toArray, List.set_cons_zero, List.set_cons_succ]
                          refine wpAnyH_ready (rs := [0]) (by kernel_rfl) (by simp) ?_
                          refine AllReadyH.cons rfl (fun K hK => ?_) AllReadyH.nil
                          go_simp
                          have hSn : Below ug.heap.size ug (ug.alloc (.cells #[] 28)).drew := ((Below.refl _ ug).alloc (Nat.le_refl _) _).drew
                          have HO0 := hide (OwnD.made ug ug.heap.size ug.heap.size rfl (Nat.le_refl _)).drew
                          generalize (ug.alloc (.cells #[] 28)).drew = Z1 at *
                          refine hK.out _ _ ?hs50 (fun hS1 => ?_)
                          case hs50 => exact hSn
                          clear hK K
                          try simp only [Act.put, List.setIfInBounds_toArray, List.set_cons_zero, List.set_cons_succ]
                          refine wpAnyH_ready (rs := [4]) (by kernel_rfl) (by simp) ?_
                          refine AllReadyH.cons rfl (fun K hK => ?_) AllReadyH.nil
                          rw [if_pos (by kernel_rfl)]
                          refine append_wp _ _ rfl ug.heap.size _ [] (left.take kk) rfl HO0.out (some ⟨b, off, none⟩) kk _ rfl (fun h => by cases h) ((LG.out.head kk (by omega)).below hS1) (by rw [List.length_take]; simp <;> omega) hS1.size ?_
                          intro v1 Z2 ho1 hb1
                          rw [List.nil_append] at ho1
                          have HO1 := hide ho1
                          have hSm := hb1 _ hS1
                          clear ho1 hb1 HO0
                          change K (Act.put _ (some 78) _) _
                          refine hK.out _ _ ?hs51 (fun hS2 => ?_)
                          case hs51 => exact hSm
                          clear hK K
                          try simp only [Act.put, List.setIfInBounds_toArray, List.set_cons_zero, List.set_cons_succ]
                          refine wpAnyH_ready (rs := [9]) (by kernel_rfl) (by simp) ?_
                          refine AllReadyH.cons rfl (fun K hK => ?_) AllReadyH.nil
                          rw [if_pos (by kernel_rfl)]
                          refine append_wp _ _ rfl ug.heap.size _ (left.take kk) (left.drop (kk + 1)) rfl HO1.out _ _ _ rfl (fun h => by cases h) (HD2.out.below hS2) (by rw [List.length_take, List.length_drop]; omega) hS2.size ?_
                          intro v2 Z3 ho2 hb2
                          obtain ⟨pz, cz, hvz, hdz, hcz⟩ := ho2.open
                          obtain ⟨nz, hnz2⟩ : ∃ nz, nz = (left.take kk ++ left.drop (kk + 1)).length := ⟨_, rfl⟩
                          rw [← hnz2] at hvz hdz hcz
                          subst hvz
                          have hoz : Off pz nz u5.heap.size := .inr fun a ha => by have := OwnD.blk ho2 a ha; omega
                          have hnz3 : nz + 1 = nb := by rw [hnz2, List.length_append, List.length_take, List.length_drop]; have := LG.out.1; omega
                          have HDz := hide hdz
                          have HCz := hide hcz
                          have HOz := hide hoz
                          have hSm := hb2 _ hS2
                          clear ho2 hb2 hdz hcz hoz hnz2
                          change K (Act.put _ (some 83) _) _
                          refine hK.out _ _ ?hs52 (fun hS3 => ?_)
                          case hs52 => exact hSm
                          clear hK K
                          try simp only [Act.put, List.setIfInBounds_toArray, List.set_cons_zero, List.set_cons_succ]
                          refine takeInH 10 9 ?v53 rfl rfl (by kernel_rfl) (by kernel_rfl) (by kernel_rfl) (fun _ _ _ h => h) (by kernel_rfl) hS3 ?hy53 ?_
                          case hy53 => (intro W hW; clear hW; go_simp; try rfl)
                          simp only [Act.put, List.setIfInBounds_toArray, List.set_cons_zero, List.set_cons_succ]
                          refine wpAnyH_done (by kernel_rfl) ?_ _
                          have HV3 := hide (HV2.out.below hS3)
                          go_wp2
                          go_roundw
                          case rel => exact ⟨i + 1, S2, _, pz, nz, cz, by go_num, rfl, by omega, HV3, HDz, HCz, HOz, HI2⟩
                          case measure => simp [lenV]; omega
                        · have HD2 : Hid (DS ug (some ⟨b, off + (kk + 1) * 2, none⟩) (nb - (kk + 1)) (left.drop (kk + 1))) := by
                            rcases Nat.lt_or_ge (kk + 1) nb with h0 | h0
                            · exact LG.out.mid (kk + 1) h0
                            · exact ⟨by rw [List.length_drop, LG.out.1], by have := HCb2.out.2.1; have := HCb2.out.1; omega, .inl (by omega)⟩
                          refine wp_region_held_drew (S := fun W => Below ug.heap.size ug W) (by kernel_rfl) ((Below.refl _ ug).drew) (fun hS0 => ?_)
                          refine takeInH 1 75 ?v54 rfl rfl (by kernel_rfl) (by kernel_rfl) (by kernel_rfl) (fun _ _ _ h => h) (by kernel_rfl) hS0 ?hy54 ?_
                          case hy54 => (intro W hW; clear hW; go_simp; try rfl)
                          simp only [Act.put, List.setIfInBounds_toArray, List.set_cons_zero, List.set_cons_succ]
                          refine takeInH 2 76 ?v55 rfl rfl (by kernel_rfl) (by kernel_rfl) (by kernel_rfl) (fun _ _ _ h => h) (by kernel_rfl) hS0 ?hy55 ?_
                          case hy55 => (intro W hW; clear hW; go_simp; try rfl)
                          simp only [Act.put, List.setIfInBounds_toArray, List.set_cons_zero, List.set_cons_succ]
                          refine takeInH 3 77 ?v56 rfl rfl (by kernel_rfl) (by kernel_rfl) (by kernel_rfl) (fun _ _ _ h => h) (by kernel_rfl) hS0 ?hy56 ?_
                          case hy56 => (intro W hW; clear hW; go_simp; try rfl)
                          simp only [Act.put, List.setIfInBounds_toArray, List.set_cons_zero, List.set_cons_succ]
                          refine takeInH 5 79 ?v57 rfl rfl (by kernel_rfl) (by kernel_rfl) (by kernel_rfl) (fun _ _ _ h => h) (by kernel_rfl) hS0 ?hy57 ?_
                          case hy57 => (intro W hW; clear hW; go_simp; try rfl)
                          simp only [Act.put, List.setIfInBounds_toArray, List.set_cons_zero, List.set_cons_succ]
                          refine takeInH 6 80 ?v58 rfl rfl (by kernel_rfl) (by kernel_rfl) (by kernel_rfl) (fun _ _ _ h => h) (by kernel_rfl) hS0 ?hy58 ?_
                          case hy58 => (intro W hW; clear hW; go_simp; try rfl)
                          simp only [Act.put, List.setIfInBounds_toArray, List.set_cons_zero, List.set_cons_succ]
                          refine takeInH 7 81 ?v59 rfl rfl (by kernel_rfl) (by kernel_rfl) (by kernel_rfl) (fun _ _ _ h => h) (by kernel_rfl) hS0 ?hy59 ?_
                          case hy59 => (intro W hW; clear hW; go_simp; try rfl)
                          simp only [Act.put, List.setIfInBounds_toArray, List.set_cons_zero, List.set_cons_succ]
                          refine takeInH 8 82 ?v60 rfl rfl (by kernel_rfl) (by kernel_rfl) (by kernel_rfl) (fun _ _ _ h => h) (by kernel_rfl) hS0 ?hy60 ?_
                          case hy60 => (intro W hW; clear hW; go_simp; try rfl)
                          simp only [Act.put, List.setIfInBounds_toArray, List.set_cons_zero, List.set_cons_succ]
                          refine wpAnyH_ready (rs := [0]) (by kernel_rfl) (by simp) ?_
                          refine AllReadyH.cons rfl (fun K hK => ?_) AllReadyH.nil
                          go_simp
                          have hSn : Below ug.heap.size ug (ug.alloc (.cells #[] 28)).drew := ((Below.refl _ ug).alloc (Nat.le_refl _) _).drew
                          have HO0 := hide (OwnD.made ug ug.heap.size ug.heap.size rfl (Nat.le_refl _)).drew
                          generalize (ug.alloc (.cells #[] 28)).drew = Z1 at *
                          refine hK.out _ _ ?hs61 (fun hS1 => ?_)
                          case hs61 => exact hSn
                          clear hK K
                          try simp only [Act.put, List.setIfInBounds_toArray, List.set_cons_zero, List.set_cons_succ]
                          refine wpAnyH_ready (rs := [4]) (by kernel_rfl) (by simp) ?_
                          refine AllReadyH.cons rfl (fun K hK => ?_) AllReadyH.nil
                          rw [if_pos (by kernel_rfl)]
                          refine append_wp _ _ rfl ug.heap.size _ [] (left.take kk) rfl HO0.out (some ⟨b, off, none⟩) kk _ rfl (fun h => by cases h) ((LG.out.head kk (by omega)).below hS1) (by rw [List.length_take]; simp <;> omega) hS1.size ?_
                          intro v1 Z2 ho1 hb1
                          rw [List.nil_append] at ho1
                          have HO1 := hide ho1
                          have hSm := hb1 _ hS1
                          clear ho1 hb1 HO0
                          change K (Act.put _ (some 78) _) _
                          refine hK.out _ _ ?hs62 (fun hS2 => ?_)
                          case hs62 => exact hSm
                          clear hK K
                          try simp only [Act.put, List.setIfInBounds_toArray, List.set_cons_zero, List.set_cons_succ]
                          refine wpAnyH_ready (rs := [9]) (by kernel_rfl) (by simp) ?_
                          refine AllReadyH.cons rfl (fun K hK => ?_) AllReadyH.nil
                          rw [if_pos (by kernel_rfl)]
                          refine append_wp _ _ rfl ug.heap.size _ (left.take kk) (left.drop (kk + 1)) rfl HO1.out _ _ _ rfl (fun h => by cases h) (HD2.out.below hS2) (by rw [List.length_take, List.length_drop]; omega) hS2.size ?_
                          intro v2 Z3 ho2 hb2
                          obtain ⟨pz, cz, hvz, hdz, hcz⟩ := ho2.open
                          obtain ⟨nz, hnz2⟩ : ∃ nz, nz = (left.take kk ++ left.drop (kk + 1)).length := ⟨_, rfl⟩
                          rw [← hnz2] at hvz hdz hcz
                          subst hvz
                          have hoz : Off pz nz u5.heap.size := .inr fun a ha => by have := OwnD.blk ho2 a ha; omega
                          have hnz3 : nz + 1 = nb := by rw [hnz2, List.length_append, List.length_take, List.length_drop]; have := LG.out.1; omega
                          have HDz := hide hdz
                          have HCz := hide hcz
                          have HOz := hide hoz
                          have hSm := hb2 _ hS2
                          clear ho2 hb2 hdz hcz hoz hnz2
                          change K (Act.put _ (some 83) _) _
                          refine hK.out _ _ ?hs63 (fun hS3 => ?_)
                          case hs63 => exact hSm
                          clear hK K
                          try simp only [Act.put, List.setIfInBounds_toArray, List.set_cons_zero, List.set_cons_succ]
                          refine takeInH 10 9 ?v64 rfl rfl (by kernel_rfl) (by kernel_rfl) (by kernel_rfl) (fun _ _ _ h => h) (by kernel_rfl) hS3 ?hy64 ?_
                          case hy64 => (intro W hW; clear hW; go_simp; try rfl)
                          simp only [Act.put, List.setIfInBounds_toArray, List.set_cons_zero, List.set_cons_succ]
                          refine wpAnyH_done (by kernel_rfl) ?_ _
                          have HV3 := hide (HV2.out.below hS3)
                          go_wp2
                          go_roundw
                          case rel => exact ⟨i + 1, S2, _, pz, nz, cz, by go_num, rfl, by omega, HV3, HDz, HCz, HOz, HI2⟩
                          case measure => simp [lenV]; omega
                    · go_simp
                      have hb : Below wr.heap.size wr (wr.alloc bxZ).drew := ((Below.refl _ wr).alloc (Nat.le_refl _) _).drew
                      have hSn := hb
                      (try replace bD := bD.below hb)
                      (try replace RX := hide (RX.out.below hb))
                      (try replace NX2 := hide (NX2.out.below hb))
                      (try replace DX2 := hide (DX2.out.below hb))
                      have hRx : RC (wr.alloc bxZ).drew wr.heap.size := heap_alloc_new wr _
                      have RX := hide hRx
                      clear hRx
                      have hgz : wr.heap.size ≤ wr.heap.size := Nat.le_refl _
                      clear hb
                      generalize (wr.alloc bxZ).drew = W1 at *
                      refine hK.out _ _ ?hs65 (fun hS1 => ?_)
                      case hs65 => exact hSn
                      clear hK K
                      try simp only [Act.put, List.setIfInBounds_toArray, List.set_cons_zero, List.set_cons_succ]
                      refine wpAnyH_ready (rs := [5]) (by kernel_rfl) (by simp) ?_
                      refine AllReadyH.cons rfl (fun K hK => ?_) AllReadyH.nil
                      go_simp
                      have hb := bel1 W1 (.cells #[.int .i64 r9, .int .i64 s9] 28)
                      have hSn := bel_next hS1 hb
                      (try replace bD := bD.below hb)
                      (try replace RX := hide (RX.out.below hb))
                      (try replace NX2 := hide (NX2.out.below hb))
                      (try replace DX2 := hide (DX2.out.below hb))
                      have bD : DS (W1.alloc (.cells #[.int .i64 r9, .int .i64 s9] 28)) (some ⟨W1.heap.size, 0, none⟩) 1 [(r9, s9)] := DS.new W1 _ rfl [(r9, s9)] _ rfl _ _ 1 rfl (by decide)
                      clear hb
                      generalize (W1.alloc (.cells #[.int .i64 r9, .int .i64 s9] 28)) = W2 at *
                      refine hK.out _ _ ?hs66 (fun hS2 => ?_)
                      case hs66 => exact hSn
                      clear hK K
                      try simp only [Act.put, List.setIfInBounds_toArray, List.set_cons_zero, List.set_cons_succ]
                      refine wpAnyH_ready (rs := [6]) (by kernel_rfl) (by simp) ?_
                      refine AllReadyH.cons rfl (fun K hK => ?_) AllReadyH.nil
                      go_simp
                      refine Calls.mono (HAdd.out _ _ (HNs.out.below hS2) (HDs.out.below hS2) bD) ?_
                      rintro e W3 ⟨⟨p3, k3, b3, p4, k4, b4, rfl, hns3, hcp3, hds3, hcp4, hp3, hp4⟩, hb⟩
                      have hSn := bel_next hS2 hb
                      have hszc := hS2.size
                      have HOs : Hid (Off p3 k3 u5.heap.size ∧ Off p4 k4 u5.heap.size) := ⟨.inr fun a ha => by have := hp3 a ha; omega, .inr fun a ha => by have := hp4 a ha; omega⟩
                      have HOx : Hid (Off p3 k3 wr.heap.size ∧ Off p4 k4 wr.heap.size) := by
                        have hz := RX.out.size
                        exact ⟨.inr fun a ha => by have := hp3 a ha; omega, .inr fun a ha => by have := hp4 a ha; omega⟩
                      clear bD
                      (try replace bD := bD.below hb)
                      (try replace RX := hide (RX.out.below hb))
                      (try replace NX2 := hide (NX2.out.below hb))
                      (try replace DX2 := hide (DX2.out.below hb))
                      have NX2 := hide hns3
                      have DX2 := hide hds3
                      have HC3 := hide hcp3
                      have HC4 := hide hcp4
                      clear hb hns3 hds3 hcp3 hcp4 hp3 hp4 hszc
                      have e0 := RX.out.cells.1
                      have e1 := RX.out.cells.2.1
                      have z0 := RX.out.cells.2.2.1
                      have z1 := RX.out.cells.2.2.2
                      try go_wp2_with fail
                      refine hK.out _ _ ?hs67 (fun hS3 => ?_)
                      case hs67 => exact hSn
                      clear hK K
                      try simp only [Act.put, List.setIfInBounds_toArray, List.set_cons_zero, List.set_cons_succ]
                      refine takeInH 7 61 ?v68 rfl rfl (by kernel_rfl) (by kernel_rfl) (by kernel_rfl) (fun _ _ _ h => h) (by kernel_rfl) hS3 ?hy68 ?_
                      case hy68 => (intro W hW; clear hW; go_simp; try rfl)
                      simp only [Act.put, List.setIfInBounds_toArray, List.set_cons_zero, List.set_cons_succ]
                      refine takeInH 8 69 ?v69 rfl rfl (by kernel_rfl) (by kernel_rfl) (by kernel_rfl) (fun _ _ _ h => h) (by kernel_rfl) hS3 ?hy69 ?_
                      case hy69 => (intro W hW; clear hW; go_simp; try rfl)
                      simp only [Act.put, List.setIfInBounds_toArray, List.set_cons_zero, List.set_cons_succ]
                      refine takeInH 9 70 ?v70 rfl rfl (by kernel_rfl) (by kernel_rfl) (by kernel_rfl) (fun _ _ _ h => h) (by kernel_rfl) hS3 ?hy70 ?_
                      case hy70 => (intro W hW; clear hW; go_simp; try rfl)
                      simp only [Act.put, List.setIfInBounds_toArray, List.set_cons_zero, List.set_cons_succ]
                      refine wpAnyH_ready (rs := [11]) (by kernel_rfl) (by simp) ?_
                      refine AllReadyH.cons rfl (fun K hK => ?_) AllReadyH.nil
                      go_simp
                      refine hK.out _ _ ?hs71 (fun hS4 => ?_)
                      case hs71 => exact ((hS3.setCell (p := ⟨wr.heap.size, 0, none⟩) hgz _).setCell (p := ⟨wr.heap.size, 1, none⟩) hgz _)
                      clear hK K
                      try simp only [Act.put, List.setIfInBounds_toArray, List.set_cons_zero, List.set_cons_succ]
                      refine takeInH 12 14 ?v72 rfl rfl (by kernel_rfl) (by kernel_rfl) (by kernel_rfl) (fun _ _ _ h => h) (by kernel_rfl) hS4 ?hy72 ?_
                      case hy72 => (intro W hW; clear hW; go_simp; try rfl)
                      simp only [Act.put, List.setIfInBounds_toArray, List.set_cons_zero, List.set_cons_succ]
                      refine wpAnyH_done (by kernel_rfl) ?_ _
                      have hGx : ((W3.setCell ⟨wr.heap.size, 0, none⟩ (.slice p3 k3 b3)).setCell ⟨wr.heap.size, 1, none⟩ (.slice p4 k4 b4)).heap[wr.heap.size]? = some (.cells #[.slice p3 k3 b3, .slice p4 k4 b4] 26 (0, 0)) := RX.out.put _ _
                      have X0 : ((W3.setCell ⟨wr.heap.size, 0, none⟩ (.slice p3 k3 b3)).setCell ⟨wr.heap.size, 1, none⟩ (.slice p4 k4 b4)).cell? ⟨wr.heap.size, 0, none⟩ = some (.slice p3 k3 b3) := by rw [cell_of_row _ _ _ _ _ _ hGx]; rfl
                      have X1 : ((W3.setCell ⟨wr.heap.size, 0, none⟩ (.slice p3 k3 b3)).setCell ⟨wr.heap.size, 1, none⟩ (.slice p4 k4 b4)).cell? ⟨wr.heap.size, 1, none⟩ = some (.slice p4 k4 b4) := by rw [cell_of_row _ _ _ _ _ _ hGx]; rfl
                      have NF := hide ((NX2.out.set0 ⟨wr.heap.size, 0, none⟩ (.slice p3 k3 b3) HOx.out.1).set0 ⟨wr.heap.size, 1, none⟩ (.slice p4 k4 b4) HOx.out.1)
                      have DF := hide ((DX2.out.set0 ⟨wr.heap.size, 0, none⟩ (.slice p3 k3 b3) HOx.out.2).set0 ⟨wr.heap.size, 1, none⟩ (.slice p4 k4 b4) HOx.out.2)
                      have gF : ((W3.setCell ⟨wr.heap.size, 0, none⟩ (.slice p3 k3 b3)).setCell ⟨wr.heap.size, 1, none⟩ (.slice p4 k4 b4)).heap[u5.heap.size]? = some (.cells #[.slice q1 j1 b1, .slice q2 j2 b2] 26 (0, 0)) := by rw [hS4.block _ hsg]; exact Hg.out
                      have LF := hide (HLb.out.below hS4)
                      have BF := hide (bel_next HBw.out hS4)
                      have hszf : u5.heap.size < ((W3.setCell ⟨wr.heap.size, 0, none⟩ (.slice p3 k3 b3)).setCell ⟨wr.heap.size, 1, none⟩ (.slice p4 k4 b4)).heap.size := Nat.lt_of_lt_of_le hsg hS4.size
                      clear hGx RX NX2 DX2 HOx e0 e1 z0 z1 hgz hS0 hS1 hS2 hS3 hS4
                      generalize ((W3.setCell ⟨wr.heap.size, 0, none⟩ (.slice p3 k3 b3)).setCell ⟨wr.heap.size, 1, none⟩ (.slice p4 k4 b4)) = uf at *
                      have a0 : uf.cell? ⟨u5.heap.size, 0, none⟩ = some (.slice q1 j1 b1) := by rw [cell_of_row uf _ _ _ _ _ gF]; rfl
                      have a1 : uf.cell? ⟨u5.heap.size, 1, none⟩ = some (.slice q2 j2 b2) := by rw [cell_of_row uf _ _ _ _ _ gF]; rfl
                      have z0 : uf.frozen? ⟨u5.heap.size, 0, none⟩ = false := by simp [World.frozen?, gF]
                      have z1 : uf.frozen? ⟨u5.heap.size, 1, none⟩ = false := by simp [World.frozen?, gF]
                      have HV2 := hide (VS.put BF.out gF NF.out HC3.out DF.out HC4.out HOs.out.1 HOs.out.2)
                      have LG := hide ((LF.out.set0 ⟨u5.heap.size, 0, none⟩ (.slice p3 k3 b3) Hob.out).set0 ⟨u5.heap.size, 1, none⟩ (.slice p4 k4 b4) Hob.out)
                      have hszg : u5.heap.size < ((uf.setCell ⟨u5.heap.size, 0, none⟩ (.slice p3 k3 b3)).setCell ⟨u5.heap.size, 1, none⟩ (.slice p4 k4 b4)).heap.size := by simpa [World.setCell] using hszf
                      clear gF
                      go_wp2
                      clear a0 a1 z0 z1 X0 X1 NF DF BF
                      generalize (uf.setCell ⟨u5.heap.size, 0, none⟩ (.slice p3 k3 b3)).setCell ⟨u5.heap.size, 1, none⟩ (.slice p4 k4 b4) = ug at *
                      have hkI : (kk : Int) ≤ (cb : Int) := by have := HCb2.out.1; omega
                      have hkJ : (kk : Int) + 1 ≤ (nb : Int) := by omega
                      have hkC : (kk : Int) + 1 ≤ (cb : Int) := by have := HCb2.out.1; omega
                      have hnC : (nb : Int) ≤ (cb : Int) := by have := HCb2.out.1; omega
                      have hwk := wrap1 (z := (kk : Int)) (by omega) (by omega)
                      have hlt30 : left.length ≤ 30 := by have := LG.out.1; omega
                      by_cases hcb : cb = kk + 1
                      · have HD2 : Hid (DS ug (some ⟨b, off, none⟩) 0 (left.drop (kk + 1))) := ⟨by rw [List.length_drop, LG.out.1]; have := HCb2.out.1; omega, by decide, .inl rfl⟩
                        subst hcb
                        have hkq : (kk : Int) ≤ (kk : Int) + 1 := by omega
                        have hnq : (nb : Int) ≤ (kk : Int) + 1 := by omega
                        have hnq2 : nb = kk + 1 := by omega
                        have hnq3 : nb - (kk + 1) = 0 := by omega
                        clear hnq2
                        refine wp_region_held_drew (S := fun W => Below ug.heap.size ug W) (by kernel_rfl) ((Below.refl _ ug).drew) (fun hS0 => ?_)
                        refine takeInH 1 75 ?v73 rfl rfl (by kernel_rfl) (by kernel_rfl) (by kernel_rfl) (fun _ _ _ h => h) (by kernel_rfl) hS0 ?hy73 ?_
                        case hy73 => (intro W hW; clear hW; go_simp; try rfl)
                        simp only [Act.put, List.setIfInBounds_toArray, List.set_cons_zero, List.set_cons_succ]
                        refine takeInH 2 76 ?v74 rfl rfl (by kernel_rfl) (by kernel_rfl) (by kernel_rfl) (fun _ _ _ h => h) (by kernel_rfl) hS0 ?hy74 ?_
                        case hy74 => (intro W hW; clear hW; go_simp; try rfl)
                        simp only [Act.put, List.setIfInBounds_toArray, List.set_cons_zero, List.set_cons_succ]
                        refine takeInH 3 77 ?v75 rfl rfl (by kernel_rfl) (by kernel_rfl) (by kernel_rfl) (fun _ _ _ h => h) (by kernel_rfl) hS0 ?hy75 ?_
                        case hy75 => (intro W hW; clear hW; go_simp; try rfl)
                        simp only [Act.put, List.setIfInBounds_toArray, List.set_cons_zero, List.set_cons_succ]
                        refine takeInH 5 79 ?v76 rfl rfl (by kernel_rfl) (by kernel_rfl) (by kernel_rfl) (fun _ _ _ h => h) (by kernel_rfl) hS0 ?hy76 ?_
                        case hy76 => (intro W hW; clear hW; go_simp; try rfl)
                        simp only [Act.put, List.setIfInBounds_toArray, List.set_cons_zero, List.set_cons_succ]
                        refine takeInH 6 80 ?v77 rfl rfl (by kernel_rfl) (by kernel_rfl) (by kernel_rfl) (fun _ _ _ h => h) (by kernel_rfl) hS0 ?hy77 ?_
                        case hy77 => (intro W hW; clear hW; go_simp; try rfl)
                        simp only [Act.put, List.setIfInBounds_toArray, List.set_cons_zero, List.set_cons_succ]
                        refine takeInH 7 81 ?v78 rfl rfl (by kernel_rfl) (by kernel_rfl) (by kernel_rfl) (fun _ _ _ h => h) (by kernel_rfl) hS0 ?hy78 ?_
                        case hy78 => (intro W hW; clear hW; go_simp; try rfl)
                        simp only [Act.put, List.setIfInBounds_toArray, List.set_cons_zero, List.set_cons_succ]
                        refine takeInH 8 82 ?v79 rfl rfl (by kernel_rfl) (by kernel_rfl) (by kernel_rfl) (fun _ _ _ h => h) (by kernel_rfl) hS0 ?hy79 ?_
                        case hy79 => (intro W hW; clear hW; go_simp; try rfl)
                        simp only [Act.put, List.setIfInBounds_toArray, List.set_cons_zero, List.set_cons_succ]
                        refine wpAnyH_ready (rs := [0]) (by kernel_rfl) (by simp) ?_
                        refine AllReadyH.cons rfl (fun K hK => ?_) AllReadyH.nil
                        go_simp
                        have hSn : Below ug.heap.size ug (ug.alloc (.cells #[] 28)).drew := ((Below.refl _ ug).alloc (Nat.le_refl _) _).drew
                        have HO0 := hide (OwnD.made ug ug.heap.size ug.heap.size rfl (Nat.le_refl _)).drew
                        generalize (ug.alloc (.cells #[] 28)).drew = Z1 at *
                        refine hK.out _ _ ?hs80 (fun hS1 => ?_)
                        case hs80 => exact hSn
                        clear hK K
                        try simp only [Act.put, List.setIfInBounds_toArray, List.set_cons_zero, List.set_cons_succ]
                        refine wpAnyH_ready (rs := [4]) (by kernel_rfl) (by simp) ?_
                        refine AllReadyH.cons rfl (fun K hK => ?_) AllReadyH.nil
                        rw [if_pos (by kernel_rfl)]
                        refine append_wp _ _ rfl ug.heap.size _ [] (left.take kk) rfl HO0.out (some ⟨b, off, none⟩) kk _ rfl (fun h => by cases h) ((LG.out.head kk (by omega)).below hS1) (by rw [List.length_take]; simp <;> omega) hS1.size ?_
                        intro v1 Z2 ho1 hb1
                        rw [List.nil_append] at ho1
                        have HO1 := hide ho1
                        have hSm := hb1 _ hS1
                        clear ho1 hb1 HO0
                        change K (Act.put _ (some 78) _) _
                        refine hK.out _ _ ?hs81 (fun hS2 => ?_)
                        case hs81 => exact hSm
                        clear hK K
                        try simp only [Act.put, List.setIfInBounds_toArray, List.set_cons_zero, List.set_cons_succ]
                        refine wpAnyH_ready (rs := [9]) (by kernel_rfl) (by simp) ?_
                        refine AllReadyH.cons rfl (fun K hK => ?_) AllReadyH.nil
                        rw [if_pos (by kernel_rfl)]
                        refine append_wp _ _ rfl ug.heap.size _ (left.take kk) (left.drop (kk + 1)) rfl HO1.out _ _ _ rfl (fun h => by cases h) (HD2.out.below hS2) (by rw [List.length_take, List.length_drop]; omega) hS2.size ?_
                        intro v2 Z3 ho2 hb2
                        obtain ⟨pz, cz, hvz, hdz, hcz⟩ := ho2.open
                        obtain ⟨nz, hnz2⟩ : ∃ nz, nz = (left.take kk ++ left.drop (kk + 1)).length := ⟨_, rfl⟩
                        rw [← hnz2] at hvz hdz hcz
                        subst hvz
                        have hoz : Off pz nz u5.heap.size := .inr fun a ha => by have := OwnD.blk ho2 a ha; omega
                        have hnz3 : nz + 1 = nb := by rw [hnz2, List.length_append, List.length_take, List.length_drop]; have := LG.out.1; omega
                        have HDz := hide hdz
                        have HCz := hide hcz
                        have HOz := hide hoz
                        have hSm := hb2 _ hS2
                        clear ho2 hb2 hdz hcz hoz hnz2
                        change K (Act.put _ (some 83) _) _
                        refine hK.out _ _ ?hs82 (fun hS3 => ?_)
                        case hs82 => exact hSm
                        clear hK K
                        try simp only [Act.put, List.setIfInBounds_toArray, List.set_cons_zero, List.set_cons_succ]
                        refine takeInH 10 9 ?v83 rfl rfl (by kernel_rfl) (by kernel_rfl) (by kernel_rfl) (fun _ _ _ h => h) (by kernel_rfl) hS3 ?hy83 ?_
                        case hy83 => (intro W hW; clear hW; go_simp; try rfl)
                        simp only [Act.put, List.setIfInBounds_toArray, List.set_cons_zero, List.set_cons_succ]
                        refine wpAnyH_done (by kernel_rfl) ?_ _
                        have HV3 := hide (HV2.out.below hS3)
                        go_wp2
                        go_roundw
                        case rel => exact ⟨i + 1, S2, _, pz, nz, cz, by go_num, rfl, by omega, HV3, HDz, HCz, HOz, HI2⟩
                        case measure => simp [lenV]; omega
                      · have HD2 : Hid (DS ug (some ⟨b, off + (kk + 1) * 2, none⟩) (nb - (kk + 1)) (left.drop (kk + 1))) := by
                          rcases Nat.lt_or_ge (kk + 1) nb with h0 | h0
                          · exact LG.out.mid (kk + 1) h0
                          · exact ⟨by rw [List.length_drop, LG.out.1], by have := HCb2.out.2.1; have := HCb2.out.1; omega, .inl (by omega)⟩
                        refine wp_region_held_drew (S := fun W => Below ug.heap.size ug W) (by kernel_rfl) ((Below.refl _ ug).drew) (fun hS0 => ?_)
                        refine takeInH 1 75 ?v84 rfl rfl (by kernel_rfl) (by kernel_rfl) (by kernel_rfl) (fun _ _ _ h => h) (by kernel_rfl) hS0 ?hy84 ?_
                        case hy84 => (intro W hW; clear hW; go_simp; try rfl)
                        simp only [Act.put, List.setIfInBounds_toArray, List.set_cons_zero, List.set_cons_succ]
                        refine takeInH 2 76 ?v85 rfl rfl (by kernel_rfl) (by kernel_rfl) (by kernel_rfl) (fun _ _ _ h => h) (by kernel_rfl) hS0 ?hy85 ?_
                        case hy85 => (intro W hW; clear hW; go_simp; try rfl)
                        simp only [Act.put, List.setIfInBounds_toArray, List.set_cons_zero, List.set_cons_succ]
                        refine takeInH 3 77 ?v86 rfl rfl (by kernel_rfl) (by kernel_rfl) (by kernel_rfl) (fun _ _ _ h => h) (by kernel_rfl) hS0 ?hy86 ?_
                        case hy86 => (intro W hW; clear hW; go_simp; try rfl)
                        simp only [Act.put, List.setIfInBounds_toArray, List.set_cons_zero, List.set_cons_succ]
                        refine takeInH 5 79 ?v87 rfl rfl (by kernel_rfl) (by kernel_rfl) (by kernel_rfl) (fun _ _ _ h => h) (by kernel_rfl) hS0 ?hy87 ?_
                        case hy87 => (intro W hW; clear hW; go_simp; try rfl)
                        simp only [Act.put, List.setIfInBounds_toArray, List.set_cons_zero, List.set_cons_succ]
                        refine takeInH 6 80 ?v88 rfl rfl (by kernel_rfl) (by kernel_rfl) (by kernel_rfl) (fun _ _ _ h => h) (by kernel_rfl) hS0 ?hy88 ?_
                        case hy88 => (intro W hW; clear hW; go_simp; try rfl)
                        simp only [Act.put, List.setIfInBounds_toArray, List.set_cons_zero, List.set_cons_succ]
                        refine takeInH 7 81 ?v89 rfl rfl (by kernel_rfl) (by kernel_rfl) (by kernel_rfl) (fun _ _ _ h => h) (by kernel_rfl) hS0 ?hy89 ?_
                        case hy89 => (intro W hW; clear hW; go_simp; try rfl)
                        simp only [Act.put, List.setIfInBounds_toArray, List.set_cons_zero, List.set_cons_succ]
                        refine takeInH 8 82 ?v90 rfl rfl (by kernel_rfl) (by kernel_rfl) (by kernel_rfl) (fun _ _ _ h => h) (by kernel_rfl) hS0 ?hy90 ?_
                        case hy90 => (intro W hW; clear hW; go_simp; try rfl)
                        simp only [Act.put, List.setIfInBounds_toArray, List.set_cons_zero, List.set_cons_succ]
                        refine wpAnyH_ready (rs := [0]) (by kernel_rfl) (by simp) ?_
                        refine AllReadyH.cons rfl (fun K hK => ?_) AllReadyH.nil
                        go_simp
                        have hSn : Below ug.heap.size ug (ug.alloc (.cells #[] 28)).drew := ((Below.refl _ ug).alloc (Nat.le_refl _) _).drew
                        have HO0 := hide (OwnD.made ug ug.heap.size ug.heap.size rfl (Nat.le_refl _)).drew
                        generalize (ug.alloc (.cells #[] 28)).drew = Z1 at *
                        refine hK.out _ _ ?hs91 (fun hS1 => ?_)
                        case hs91 => exact hSn
                        clear hK K
                        try simp only [Act.put, List.setIfInBounds_toArray, List.set_cons_zero, List.set_cons_succ]
                        refine wpAnyH_ready (rs := [4]) (by kernel_rfl) (by simp) ?_
                        refine AllReadyH.cons rfl (fun K hK => ?_) AllReadyH.nil
                        rw [if_pos (by kernel_rfl)]
                        refine append_wp _ _ rfl ug.heap.size _ [] (left.take kk) rfl HO0.out (some ⟨b, off, none⟩) kk _ rfl (fun h => by cases h) ((LG.out.head kk (by omega)).below hS1) (by rw [List.length_take]; simp <;> omega) hS1.size ?_
                        intro v1 Z2 ho1 hb1
                        rw [List.nil_append] at ho1
                        have HO1 := hide ho1
                        have hSm := hb1 _ hS1
                        clear ho1 hb1 HO0
                        change K (Act.put _ (some 78) _) _
                        refine hK.out _ _ ?hs92 (fun hS2 => ?_)
                        case hs92 => exact hSm
                        clear hK K
                        try simp only [Act.put, List.setIfInBounds_toArray, List.set_cons_zero, List.set_cons_succ]
                        refine wpAnyH_ready (rs := [9]) (by kernel_rfl) (by simp) ?_
                        refine AllReadyH.cons rfl (fun K hK => ?_) AllReadyH.nil
                        rw [if_pos (by kernel_rfl)]
                        refine append_wp _ _ rfl ug.heap.size _ (left.take kk) (left.drop (kk + 1)) rfl HO1.out _ _ _ rfl (fun h => by cases h) (HD2.out.below hS2) (by rw [List.length_take, List.length_drop]; omega) hS2.size ?_
                        intro v2 Z3 ho2 hb2
                        obtain ⟨pz, cz, hvz, hdz, hcz⟩ := ho2.open
                        obtain ⟨nz, hnz2⟩ : ∃ nz, nz = (left.take kk ++ left.drop (kk + 1)).length := ⟨_, rfl⟩
                        rw [← hnz2] at hvz hdz hcz
                        subst hvz
                        have hoz : Off pz nz u5.heap.size := .inr fun a ha => by have := OwnD.blk ho2 a ha; omega
                        have hnz3 : nz + 1 = nb := by rw [hnz2, List.length_append, List.length_take, List.length_drop]; have := LG.out.1; omega
                        have HDz := hide hdz
                        have HCz := hide hcz
                        have HOz := hide hoz
                        have hSm := hb2 _ hS2
                        clear ho2 hb2 hdz hcz hoz hnz2
                        change K (Act.put _ (some 83) _) _
                        refine hK.out _ _ ?hs93 (fun hS3 => ?_)
                        case hs93 => exact hSm
                        clear hK K
                        try simp only [Act.put, List.setIfInBounds_toArray, List.set_cons_zero, List.set_cons_succ]
                        refine takeInH 10 9 ?v94 rfl rfl (by kernel_rfl) (by kernel_rfl) (by kernel_rfl) (fun _ _ _ h => h) (by kernel_rfl) hS3 ?hy94 ?_
                        case hy94 => (intro W hW; clear hW; go_simp; try rfl)
                        simp only [Act.put, List.setIfInBounds_toArray, List.set_cons_zero, List.set_cons_succ]
                        refine wpAnyH_done (by kernel_rfl) ?_ _
                        have HV3 := hide (HV2.out.below hS3)
                        go_wp2
                        go_roundw
                        case rel => exact ⟨i + 1, S2, _, pz, nz, cz, by go_num, rfl, by omega, HV3, HDz, HCz, HOz, HI2⟩
                        case measure => simp [lenV]; omega
                · have hitI : ¬ ((i : Int) < (nt : Int)) := by omega
                  have hkn : 0 < nb := hpos
                  obtain ⟨hB, q1, j1, b1, q2, j2, b2, hg, hns, hcp, hds, hcq, ho1, ho2⟩ := HV.out
                  have w0c : wr.cell? ⟨u5.heap.size, 0, none⟩ = some (.slice q1 j1 b1) := by rw [cell_of_row wr _ _ _ _ _ hg]; rfl
                  have w1c : wr.cell? ⟨u5.heap.size, 1, none⟩ = some (.slice q2 j2 b2) := by rw [cell_of_row wr _ _ _ _ _ hg]; rfl
                  have hsg : u5.heap.size < wr.heap.size := (Array.getElem?_eq_some_iff.1 hg).1
                  have hkl : 0 < left.length := by omega
                  have hyc := hc 0 hkn
                  have hmx := HI.out.2.2.1 _ (getDot_mem hkl)
                  have HI2 := hide (invO_step HI.out hkl)
                  obtain ⟨x, hx⟩ : ∃ x, left.getD 0 (0, 0) = x := ⟨_, rfl⟩
                  rw [hx] at hyc hmx HI2
                  have y0 : wr.cell? ⟨b, off, none⟩ = some (.int .i64 x.1) := by simpa using hyc.1
                  have y1 : wr.cell? ⟨b, off + 1, none⟩ = some (.int .i64 x.2) := by simpa using hyc.2
                  have hS1 : S.2.length ≤ 1000 := by have := HI.out.2.2.2; omega
                  have hj2 : j2 + 1 ≤ 1000 := by have := HI.out.2.2.2; have := hds.1; omega
                  have hseen := good_seen HI.out.1 hS1
                  have hone := addF_one HI.out.1 hS1 hmx
                  have HAdd := hide (fun G W h1 h2 h3 => Add_good q1 q2 j1 b1 j2 b2 (pln S.1) S.2 (some ⟨G, 0, none⟩) 1 1 [x] W h1 h2 h3 hseen (by simp [hmx]) hcq.2.2 (fun h => by cases h) hj2)
                  rw [hone] at HAdd
                  obtain ⟨S2, hS2⟩ : ∃ S2, S2 = addR S x := ⟨_, rfl⟩
                  rw [← hS2] at HAdd HI2
                  have HNs := hide hns
                  have HDs := hide hds
                  have HBw := hide hB
                  have Hg := hide hg
                  have HCb2 := hide HCb.out
                  have Hkl := hide hkl
                  clear hns hds hB hg hcp hcq ho1 ho2 hmx hseen hone hS2 hS1 hj2 hyc hx HV HI hc hkl
                  obtain ⟨r9, s9⟩ := x
                  go_wp2
                  refine wp_region_held_drew (S := fun W => Below wr.heap.size wr W) (by kernel_rfl) ((Below.refl _ wr).drew) (fun hS0 => ?_)
                  refine takeInH 0 62 ?v95 rfl rfl (by kernel_rfl) (by kernel_rfl) (by kernel_rfl) (fun _ _ _ h => h) (by kernel_rfl) hS0 ?hy95 ?_
                  case hy95 => (intro W hW; have e0 := bcell hW w0c; have e1 := bcell hW w1c; have e2 := bcell hW y0; have e3 := bcell hW y1; clear hW; go_simp; try rfl)
                  simp only [Act.put, List.setIfInBounds_toArray, List.set_cons_zero, List.set_cons_succ]
                  refine takeInH 1 63 ?v96 rfl rfl (by kernel_rfl) (by kernel_rfl) (by kernel_rfl) (fun _ _ _ h => h) (by kernel_rfl) hS0 ?hy96 ?_
                  case hy96 => (intro W hW; clear hW; go_simp; try rfl)
                  simp only [Act.put, List.setIfInBounds_toArray, List.set_cons_zero, List.set_cons_succ]
                  refine takeInH 2 64 ?v97 rfl rfl (by kernel_rfl) (by kernel_rfl) (by kernel_rfl) (fun _ _ _ h => h) (by kernel_rfl) hS0 ?hy97 ?_
                  case hy97 => (intro W hW; clear hW; go_simp; try rfl)
                  simp only [Act.put, List.setIfInBounds_toArray, List.set_cons_zero, List.set_cons_succ]
                  refine takeInH 3 65 ?v98 rfl rfl (by kernel_rfl) (by kernel_rfl) (by kernel_rfl) (fun _ _ _ h => h) (by kernel_rfl) hS0 ?hy98 ?_
                  case hy98 => (intro W hW; clear hW; go_simp; try rfl)
                  simp only [Act.put, List.setIfInBounds_toArray, List.set_cons_zero, List.set_cons_succ]
                  refine takeInH 4 66 ?v99 rfl rfl (by kernel_rfl) (by kernel_rfl) (by kernel_rfl) (fun _ _ _ h => h) (by kernel_rfl) hS0 ?hy99 ?_
                  case hy99 => (intro W hW; have e0 := bcell hW w0c; have e1 := bcell hW w1c; have e2 := bcell hW y0; have e3 := bcell hW y1; clear hW; go_simp; try rfl)
                  simp only [Act.put, List.setIfInBounds_toArray, List.set_cons_zero, List.set_cons_succ]
                  refine wpAnyH_ready (rs := [5, 10]) (by kernel_rfl) (by simp) ?_
                  refine AllReadyH.cons rfl (fun K hK => ?_) (AllReadyH.cons rfl (fun K hK => ?_) AllReadyH.nil)
                  · go_simp
                    have hb : Below wr.heap.size wr (wr.alloc (.cells #[.int .i64 r9, .int .i64 s9] 28)).drew := ((Below.refl _ wr).alloc (Nat.le_refl _) _).drew
                    have hSn := hb
                    (try replace bD := bD.below hb)
                    (try replace RX := hide (RX.out.below hb))
                    (try replace NX2 := hide (NX2.out.below hb))
                    (try replace DX2 := hide (DX2.out.below hb))
                    have bD : DS (wr.alloc (.cells #[.int .i64 r9, .int .i64 s9] 28)).drew (some ⟨wr.heap.size, 0, none⟩) 1 [(r9, s9)] := DS.new wr _ rfl [(r9, s9)] _ rfl _ _ 1 rfl (by decide)
                    clear hb
                    generalize (wr.alloc (.cells #[.int .i64 r9, .int .i64 s9] 28)).drew = W1 at *
                    refine hK.out _ _ ?hs100 (fun hS1 => ?_)
                    case hs100 => exact hSn
                    clear hK K
                    try simp only [Act.put, List.setIfInBounds_toArray, List.set_cons_zero, List.set_cons_succ]
                    refine wpAnyH_ready (rs := [6, 10]) (by kernel_rfl) (by simp) ?_
                    refine AllReadyH.cons rfl (fun K hK => ?_) (AllReadyH.cons rfl (fun K hK => ?_) AllReadyH.nil)
                    · go_simp
                      refine Calls.mono (HAdd.out _ _ (HNs.out.below hS1) (HDs.out.below hS1) bD) ?_
                      rintro e W2 ⟨⟨p3, k3, b3, p4, k4, b4, rfl, hns3, hcp3, hds3, hcp4, hp3, hp4⟩, hb⟩
                      have hSn := bel_next hS1 hb
                      have hszc := hS1.size
                      have HOs : Hid (Off p3 k3 u5.heap.size ∧ Off p4 k4 u5.heap.size) := ⟨.inr fun a ha => by have := hp3 a ha; omega, .inr fun a ha => by have := hp4 a ha; omega⟩
                      clear bD
                      (try replace bD := bD.below hb)
                      (try replace RX := hide (RX.out.below hb))
                      (try replace NX2 := hide (NX2.out.below hb))
                      (try replace DX2 := hide (DX2.out.below hb))
                      have NX2 := hide hns3
                      have DX2 := hide hds3
                      have HC3 := hide hcp3
                      have HC4 := hide hcp4
                      clear hb hns3 hds3 hcp3 hcp4 hp3 hp4 hszc
                      try go_wp2_with fail
                      refine hK.out _ _ ?hs101 (fun hS2 => ?_)
                      case hs101 => exact hSn
                      clear hK K
                      try simp only [Act.put, List.setIfInBounds_toArray, List.set_cons_zero, List.set_cons_succ]
                      refine takeInH 7 61 ?v102 rfl rfl (by kernel_rfl) (by kernel_rfl) (by kernel_rfl) (fun _ _ _ h => h) (by kernel_rfl) hS2 ?hy102 ?_
                      case hy102 => (intro W hW; clear hW; go_simp; try rfl)
                      simp only [Act.put, List.setIfInBounds_toArray, List.set_cons_zero, List.set_cons_succ]
                      refine takeInH 8 69 ?v103 rfl rfl (by kernel_rfl) (by kernel_rfl) (by kernel_rfl) (fun _ _ _ h => h) (by kernel_rfl) hS2 ?hy103 ?_
                      case hy103 => (intro W hW; clear hW; go_simp; try rfl)
                      simp only [Act.put, List.setIfInBounds_toArray, List.set_cons_zero, List.set_cons_succ]
                      refine takeInH 9 70 ?v104 rfl rfl (by kernel_rfl) (by kernel_rfl) (by kernel_rfl) (fun _ _ _ h => h) (by kernel_rfl) hS2 ?hy104 ?_
                      case hy104 => (intro W hW; clear hW; go_simp; try rfl)
                      simp only [Act.put, List.setIfInBounds_toArray, List.set_cons_zero, List.set_cons_succ]
                      refine wpAnyH_ready (rs := [10]) (by kernel_rfl) (by simp) ?_
                      refine AllReadyH.cons rfl (fun K hK => ?_) AllReadyH.nil
                      go_simp
                      have NX0 := NX2
                      have DX0 := DX2
                      have hb := bel1 W2 bxZ
                      have hSn := bel_next hS2 hb
                      (try replace bD := bD.below hb)
                      (try replace RX := hide (RX.out.below hb))
                      (try replace NX2 := hide (NX2.out.below hb))
                      (try replace DX2 := hide (DX2.out.below hb))
                      have HOx : Hid (Off p3 k3 W2.heap.size ∧ Off p4 k4 W2.heap.size) := by
                        constructor
                        · rcases NX0.out.far with h0 | h0
                          · exact .inl h0
                          · exact .inr fun a ha => Nat.ne_of_lt (h0 a ha)
                        · rcases DX0.out.far with h0 | h0
                          · exact .inl h0
                          · exact .inr fun a ha => Nat.ne_of_lt (h0 a ha)
                      have hRx : RC (W2.alloc bxZ) W2.heap.size := heap_alloc_new W2 _
                      have RX := hide hRx
                      clear hRx
                      have hgz : wr.heap.size ≤ W2.heap.size := hS2.size
                      clear hb
                      generalize (W2.alloc bxZ) = W3 at *
                      clear NX0 DX0
                      have e0 := RX.out.cells.1
                      have e1 := RX.out.cells.2.1
                      have z0 := RX.out.cells.2.2.1
                      have z1 := RX.out.cells.2.2.2
                      refine hK.out _ _ ?hs105 (fun hS3 => ?_)
                      case hs105 => exact hSn
                      clear hK K
                      try simp only [Act.put, List.setIfInBounds_toArray, List.set_cons_zero, List.set_cons_succ]
                      refine wpAnyH_ready (rs := [11]) (by kernel_rfl) (by simp) ?_
                      refine AllReadyH.cons rfl (fun K hK => ?_) AllReadyH.nil
                      go_simp
                      refine hK.out _ _ ?hs106 (fun hS4 => ?_)
                      case hs106 => exact ((hS3.setCell (p := ⟨W2.heap.size, 0, none⟩) hgz _).setCell (p := ⟨W2.heap.size, 1, none⟩) hgz _)
                      clear hK K
                      try simp only [Act.put, List.setIfInBounds_toArray, List.set_cons_zero, List.set_cons_succ]
                      refine takeInH 12 14 ?v107 rfl rfl (by kernel_rfl) (by kernel_rfl) (by kernel_rfl) (fun _ _ _ h => h) (by kernel_rfl) hS4 ?hy107 ?_
                      case hy107 => (intro W hW; clear hW; go_simp; try rfl)
                      simp only [Act.put, List.setIfInBounds_toArray, List.set_cons_zero, List.set_cons_succ]
                      refine wpAnyH_done (by kernel_rfl) ?_ _
                      have hGx : ((W3.setCell ⟨W2.heap.size, 0, none⟩ (.slice p3 k3 b3)).setCell ⟨W2.heap.size, 1, none⟩ (.slice p4 k4 b4)).heap[W2.heap.size]? = some (.cells #[.slice p3 k3 b3, .slice p4 k4 b4] 26 (0, 0)) := RX.out.put _ _
                      have X0 : ((W3.setCell ⟨W2.heap.size, 0, none⟩ (.slice p3 k3 b3)).setCell ⟨W2.heap.size, 1, none⟩ (.slice p4 k4 b4)).cell? ⟨W2.heap.size, 0, none⟩ = some (.slice p3 k3 b3) := by rw [cell_of_row _ _ _ _ _ _ hGx]; rfl
                      have X1 : ((W3.setCell ⟨W2.heap.size, 0, none⟩ (.slice p3 k3 b3)).setCell ⟨W2.heap.size, 1, none⟩ (.slice p4 k4 b4)).cell? ⟨W2.heap.size, 1, none⟩ = some (.slice p4 k4 b4) := by rw [cell_of_row _ _ _ _ _ _ hGx]; rfl
                      have NF := hide ((NX2.out.set0 ⟨W2.heap.size, 0, none⟩ (.slice p3 k3 b3) HOx.out.1).set0 ⟨W2.heap.size, 1, none⟩ (.slice p4 k4 b4) HOx.out.1)
                      have DF := hide ((DX2.out.set0 ⟨W2.heap.size, 0, none⟩ (.slice p3 k3 b3) HOx.out.2).set0 ⟨W2.heap.size, 1, none⟩ (.slice p4 k4 b4) HOx.out.2)
                      have gF : ((W3.setCell ⟨W2.heap.size, 0, none⟩ (.slice p3 k3 b3)).setCell ⟨W2.heap.size, 1, none⟩ (.slice p4 k4 b4)).heap[u5.heap.size]? = some (.cells #[.slice q1 j1 b1, .slice q2 j2 b2] 26 (0, 0)) := by rw [hS4.block _ hsg]; exact Hg.out
                      have LF := hide (HLb.out.below hS4)
                      have BF := hide (bel_next HBw.out hS4)
                      have hszf : u5.heap.size < ((W3.setCell ⟨W2.heap.size, 0, none⟩ (.slice p3 k3 b3)).setCell ⟨W2.heap.size, 1, none⟩ (.slice p4 k4 b4)).heap.size := Nat.lt_of_lt_of_le hsg hS4.size
                      clear hGx RX NX2 DX2 HOx e0 e1 z0 z1 hgz hS0 hS1 hS2 hS3 hS4
                      generalize ((W3.setCell ⟨W2.heap.size, 0, none⟩ (.slice p3 k3 b3)).setCell ⟨W2.heap.size, 1, none⟩ (.slice p4 k4 b4)) = uf at *
                      have a0 : uf.cell? ⟨u5.heap.size, 0, none⟩ = some (.slice q1 j1 b1) := by rw [cell_of_row uf _ _ _ _ _ gF]; rfl
                      have a1 : uf.cell? ⟨u5.heap.size, 1, none⟩ = some (.slice q2 j2 b2) := by rw [cell_of_row uf _ _ _ _ _ gF]; rfl
                      have z0 : uf.frozen? ⟨u5.heap.size, 0, none⟩ = false := by simp [World.frozen?, gF]
                      have z1 : uf.frozen? ⟨u5.heap.size, 1, none⟩ = false := by simp [World.frozen?, gF]
                      have HV2 := hide (VS.put BF.out gF NF.out HC3.out DF.out HC4.out HOs.out.1 HOs.out.2)
                      have LG := hide ((LF.out.set0 ⟨u5.heap.size, 0, none⟩ (.slice p3 k3 b3) Hob.out).set0 ⟨u5.heap.size, 1, none⟩ (.slice p4 k4 b4) Hob.out)
                      have hszg : u5.heap.size < ((uf.setCell ⟨u5.heap.size, 0, none⟩ (.slice p3 k3 b3)).setCell ⟨u5.heap.size, 1, none⟩ (.slice p4 k4 b4)).heap.size := by simpa [World.setCell] using hszf
                      clear gF
                      go_wp2
                      clear a0 a1 z0 z1 X0 X1 NF DF BF
                      generalize (uf.setCell ⟨u5.heap.size, 0, none⟩ (.slice p3 k3 b3)).setCell ⟨u5.heap.size, 1, none⟩ (.slice p4 k4 b4) = ug at *
                      have hkI : (0 : Int) ≤ (cb : Int) := by have := HCb2.out.1; omega
                      have hkJ : (1 : Int) ≤ (nb : Int) := by omega
                      have hkC : (1 : Int) ≤ (cb : Int) := by have := HCb2.out.1; omega
                      have hnC : (nb : Int) ≤ (cb : Int) := by have := HCb2.out.1; omega
                      have hwk : IntKind.i64.wrap 1 = 1 := by decide
                      have hlt30 : left.length ≤ 30 := by have := LG.out.1; omega
                      by_cases hcb : cb = 1
                      · have HD2 : Hid (DS ug (some ⟨b, off, none⟩) 0 (left.drop (0 + 1))) := ⟨by rw [List.length_drop, LG.out.1]; have := HCb2.out.1; omega, by decide, .inl rfl⟩
                        subst hcb
                        have hkq : True := trivial
                        have hnq : (nb : Int) ≤ (1 : Int) := by omega
                        have hnq2 : nb = 1 := by omega
                        have hnq3 : nb - (1) = 0 := by omega
                        clear hnq2
                        refine wp_region_held_drew (S := fun W => Below ug.heap.size ug W) (by kernel_rfl) ((Below.refl _ ug).drew) (fun hS0 => ?_)
                        refine takeInH 1 75 ?v108 rfl rfl (by kernel_rfl) (by kernel_rfl) (by kernel_rfl) (fun _ _ _ h => h) (by kernel_rfl) hS0 ?hy108 ?_
                        case hy108 => (intro W hW; clear hW; go_simp; try rfl)
                        simp only [Act.put, List.setIfInBounds_toArray, List.set_cons_zero, List.set_cons_succ]
                        refine takeInH 2 76 ?v109 rfl rfl (by kernel_rfl) (by kernel_rfl) (by kernel_rfl) (fun _ _ _ h => h) (by kernel_rfl) hS0 ?hy109 ?_
                        case hy109 => (intro W hW; clear hW; go_simp; try rfl)
                        simp only [Act.put, List.setIfInBounds_toArray, List.set_cons_zero, List.set_cons_succ]
                        refine takeInH 3 77 ?v110 rfl rfl (by kernel_rfl) (by kernel_rfl) (by kernel_rfl) (fun _ _ _ h => h) (by kernel_rfl) hS0 ?hy110 ?_
                        case hy110 => (intro W hW; clear hW; go_simp; try rfl)
                        simp only [Act.put, List.setIfInBounds_toArray, List.set_cons_zero, List.set_cons_succ]
                        refine takeInH 5 79 ?v111 rfl rfl (by kernel_rfl) (by kernel_rfl) (by kernel_rfl) (fun _ _ _ h => h) (by kernel_rfl) hS0 ?hy111 ?_
                        case hy111 => (intro W hW; clear hW; go_simp; try rfl)
                        simp only [Act.put, List.setIfInBounds_toArray, List.set_cons_zero, List.set_cons_succ]
                        refine takeInH 6 80 ?v112 rfl rfl (by kernel_rfl) (by kernel_rfl) (by kernel_rfl) (fun _ _ _ h => h) (by kernel_rfl) hS0 ?hy112 ?_
                        case hy112 => (intro W hW; clear hW; go_simp; try rfl)
                        simp only [Act.put, List.setIfInBounds_toArray, List.set_cons_zero, List.set_cons_succ]
                        refine takeInH 7 81 ?v113 rfl rfl (by kernel_rfl) (by kernel_rfl) (by kernel_rfl) (fun _ _ _ h => h) (by kernel_rfl) hS0 ?hy113 ?_
                        case hy113 => (intro W hW; clear hW; go_simp; try rfl)
                        simp only [Act.put, List.setIfInBounds_toArray, List.set_cons_zero, List.set_cons_succ]
                        refine takeInH 8 82 ?v114 rfl rfl (by kernel_rfl) (by kernel_rfl) (by kernel_rfl) (fun _ _ _ h => h) (by kernel_rfl) hS0 ?hy114 ?_
                        case hy114 => (intro W hW; clear hW; go_simp; try rfl)
                        simp only [Act.put, List.setIfInBounds_toArray, List.set_cons_zero, List.set_cons_succ]
                        refine wpAnyH_ready (rs := [0]) (by kernel_rfl) (by simp) ?_
                        refine AllReadyH.cons rfl (fun K hK => ?_) AllReadyH.nil
                        go_simp
                        have hSn : Below ug.heap.size ug (ug.alloc (.cells #[] 28)).drew := ((Below.refl _ ug).alloc (Nat.le_refl _) _).drew
                        have HO0 := hide (OwnD.made ug ug.heap.size ug.heap.size rfl (Nat.le_refl _)).drew
                        generalize (ug.alloc (.cells #[] 28)).drew = Z1 at *
                        refine hK.out _ _ ?hs115 (fun hS1 => ?_)
                        case hs115 => exact hSn
                        clear hK K
                        try simp only [Act.put, List.setIfInBounds_toArray, List.set_cons_zero, List.set_cons_succ]
                        refine wpAnyH_ready (rs := [4]) (by kernel_rfl) (by simp) ?_
                        refine AllReadyH.cons rfl (fun K hK => ?_) AllReadyH.nil
                        rw [if_pos (by kernel_rfl)]
                        refine append_wp _ _ rfl ug.heap.size _ [] (left.take 0) rfl HO0.out (some ⟨b, off, none⟩) 0 _ rfl (fun h => by cases h) ((LG.out.head 0 (by omega)).below hS1) (by rw [List.length_take]; simp <;> omega) hS1.size ?_
                        intro v1 Z2 ho1 hb1
                        rw [List.nil_append] at ho1
                        have HO1 := hide ho1
                        have hSm := hb1 _ hS1
                        clear ho1 hb1 HO0
                        change K (Act.put _ (some 78) _) _
                        refine hK.out _ _ ?hs116 (fun hS2 => ?_)
                        case hs116 => exact hSm
                        clear hK K
                        try simp only [Act.put, List.setIfInBounds_toArray, List.set_cons_zero, List.set_cons_succ]
                        refine wpAnyH_ready (rs := [9]) (by kernel_rfl) (by simp) ?_
                        refine AllReadyH.cons rfl (fun K hK => ?_) AllReadyH.nil
                        rw [if_pos (by kernel_rfl)]
                        refine append_wp _ _ rfl ug.heap.size _ (left.take 0) (left.drop (0 + 1)) rfl HO1.out _ _ _ rfl (fun h => by cases h) (HD2.out.below hS2) (by rw [List.length_take, List.length_drop]; omega) hS2.size ?_
                        intro v2 Z3 ho2 hb2
                        obtain ⟨pz, cz, hvz, hdz, hcz⟩ := ho2.open
                        obtain ⟨nz, hnz2⟩ : ∃ nz, nz = (left.take 0 ++ left.drop (0 + 1)).length := ⟨_, rfl⟩
                        rw [← hnz2] at hvz hdz hcz
                        subst hvz
                        have hoz : Off pz nz u5.heap.size := .inr fun a ha => by have := OwnD.blk ho2 a ha; omega
                        have hnz3 : nz + 1 = nb := by rw [hnz2, List.length_append, List.length_take, List.length_drop]; have := LG.out.1; omega
                        have HDz := hide hdz
                        have HCz := hide hcz
                        have HOz := hide hoz
                        have hSm := hb2 _ hS2
                        clear ho2 hb2 hdz hcz hoz hnz2
                        change K (Act.put _ (some 83) _) _
                        refine hK.out _ _ ?hs117 (fun hS3 => ?_)
                        case hs117 => exact hSm
                        clear hK K
                        try simp only [Act.put, List.setIfInBounds_toArray, List.set_cons_zero, List.set_cons_succ]
                        refine takeInH 10 9 ?v118 rfl rfl (by kernel_rfl) (by kernel_rfl) (by kernel_rfl) (fun _ _ _ h => h) (by kernel_rfl) hS3 ?hy118 ?_
                        case hy118 => (intro W hW; clear hW; go_simp; try rfl)
                        simp only [Act.put, List.setIfInBounds_toArray, List.set_cons_zero, List.set_cons_succ]
                        refine wpAnyH_done (by kernel_rfl) ?_ _
                        have HV3 := hide (HV2.out.below hS3)
                        go_wp2
                        go_roundw
                        case rel => exact ⟨i + 1, S2, _, pz, nz, cz, by go_num, rfl, by omega, HV3, HDz, HCz, HOz, HI2⟩
                        case measure => simp [lenV]; omega
                      · have HD2 : Hid (DS ug (some ⟨b, off + (0 + 1) * 2, none⟩) (nb - (0 + 1)) (left.drop (0 + 1))) := by
                          rcases Nat.lt_or_ge (0 + 1) nb with h0 | h0
                          · exact LG.out.mid (0 + 1) h0
                          · exact ⟨by rw [List.length_drop, LG.out.1], by have := HCb2.out.2.1; have := HCb2.out.1; omega, .inl (by omega)⟩
                        refine wp_region_held_drew (S := fun W => Below ug.heap.size ug W) (by kernel_rfl) ((Below.refl _ ug).drew) (fun hS0 => ?_)
                        refine takeInH 1 75 ?v119 rfl rfl (by kernel_rfl) (by kernel_rfl) (by kernel_rfl) (fun _ _ _ h => h) (by kernel_rfl) hS0 ?hy119 ?_
                        case hy119 => (intro W hW; clear hW; go_simp; try rfl)
                        simp only [Act.put, List.setIfInBounds_toArray, List.set_cons_zero, List.set_cons_succ]
                        refine takeInH 2 76 ?v120 rfl rfl (by kernel_rfl) (by kernel_rfl) (by kernel_rfl) (fun _ _ _ h => h) (by kernel_rfl) hS0 ?hy120 ?_
                        case hy120 => (intro W hW; clear hW; go_simp; try rfl)
                        simp only [Act.put, List.setIfInBounds_toArray, List.set_cons_zero, List.set_cons_succ]
                        refine takeInH 3 77 ?v121 rfl rfl (by kernel_rfl) (by kernel_rfl) (by kernel_rfl) (fun _ _ _ h => h) (by kernel_rfl) hS0 ?hy121 ?_
                        case hy121 => (intro W hW; clear hW; go_simp; try rfl)
                        simp only [Act.put, List.setIfInBounds_toArray, List.set_cons_zero, List.set_cons_succ]
                        refine takeInH 5 79 ?v122 rfl rfl (by kernel_rfl) (by kernel_rfl) (by kernel_rfl) (fun _ _ _ h => h) (by kernel_rfl) hS0 ?hy122 ?_
                        case hy122 => (intro W hW; clear hW; go_simp; try rfl)
                        simp only [Act.put, List.setIfInBounds_toArray, List.set_cons_zero, List.set_cons_succ]
                        refine takeInH 6 80 ?v123 rfl rfl (by kernel_rfl) (by kernel_rfl) (by kernel_rfl) (fun _ _ _ h => h) (by kernel_rfl) hS0 ?hy123 ?_
                        case hy123 => (intro W hW; clear hW; go_simp; try rfl)
                        simp only [Act.put, List.setIfInBounds_toArray, List.set_cons_zero, List.set_cons_succ]
                        refine takeInH 7 81 ?v124 rfl rfl (by kernel_rfl) (by kernel_rfl) (by kernel_rfl) (fun _ _ _ h => h) (by kernel_rfl) hS0 ?hy124 ?_
                        case hy124 => (intro W hW; clear hW; go_simp; try rfl)
                        simp only [Act.put, List.setIfInBounds_toArray, List.set_cons_zero, List.set_cons_succ]
                        refine takeInH 8 82 ?v125 rfl rfl (by kernel_rfl) (by kernel_rfl) (by kernel_rfl) (fun _ _ _ h => h) (by kernel_rfl) hS0 ?hy125 ?_
                        case hy125 => (intro W hW; clear hW; go_simp; try rfl)
                        simp only [Act.put, List.setIfInBounds_toArray, List.set_cons_zero, List.set_cons_succ]
                        refine wpAnyH_ready (rs := [0]) (by kernel_rfl) (by simp) ?_
                        refine AllReadyH.cons rfl (fun K hK => ?_) AllReadyH.nil
                        go_simp
                        have hSn : Below ug.heap.size ug (ug.alloc (.cells #[] 28)).drew := ((Below.refl _ ug).alloc (Nat.le_refl _) _).drew
                        have HO0 := hide (OwnD.made ug ug.heap.size ug.heap.size rfl (Nat.le_refl _)).drew
                        generalize (ug.alloc (.cells #[] 28)).drew = Z1 at *
                        refine hK.out _ _ ?hs126 (fun hS1 => ?_)
                        case hs126 => exact hSn
                        clear hK K
                        try simp only [Act.put, List.setIfInBounds_toArray, List.set_cons_zero, List.set_cons_succ]
                        refine wpAnyH_ready (rs := [4]) (by kernel_rfl) (by simp) ?_
                        refine AllReadyH.cons rfl (fun K hK => ?_) AllReadyH.nil
                        rw [if_pos (by kernel_rfl)]
                        refine append_wp _ _ rfl ug.heap.size _ [] (left.take 0) rfl HO0.out (some ⟨b, off, none⟩) 0 _ rfl (fun h => by cases h) ((LG.out.head 0 (by omega)).below hS1) (by rw [List.length_take]; simp <;> omega) hS1.size ?_
                        intro v1 Z2 ho1 hb1
                        rw [List.nil_append] at ho1
                        have HO1 := hide ho1
                        have hSm := hb1 _ hS1
                        clear ho1 hb1 HO0
                        change K (Act.put _ (some 78) _) _
                        refine hK.out _ _ ?hs127 (fun hS2 => ?_)
                        case hs127 => exact hSm
                        clear hK K
                        try simp only [Act.put, List.setIfInBounds_toArray, List.set_cons_zero, List.set_cons_succ]
                        refine wpAnyH_ready (rs := [9]) (by kernel_rfl) (by simp) ?_
                        refine AllReadyH.cons rfl (fun K hK => ?_) AllReadyH.nil
                        rw [if_pos (by kernel_rfl)]
                        refine append_wp _ _ rfl ug.heap.size _ (left.take 0) (left.drop (0 + 1)) rfl HO1.out _ _ _ rfl (fun h => by cases h) (HD2.out.below hS2) (by rw [List.length_take, List.length_drop]; omega) hS2.size ?_
                        intro v2 Z3 ho2 hb2
                        obtain ⟨pz, cz, hvz, hdz, hcz⟩ := ho2.open
                        obtain ⟨nz, hnz2⟩ : ∃ nz, nz = (left.take 0 ++ left.drop (0 + 1)).length := ⟨_, rfl⟩
                        rw [← hnz2] at hvz hdz hcz
                        subst hvz
                        have hoz : Off pz nz u5.heap.size := .inr fun a ha => by have := OwnD.blk ho2 a ha; omega
                        have hnz3 : nz + 1 = nb := by rw [hnz2, List.length_append, List.length_take, List.length_drop]; have := LG.out.1; omega
                        have HDz := hide hdz
                        have HCz := hide hcz
                        have HOz := hide hoz
                        have hSm := hb2 _ hS2
                        clear ho2 hb2 hdz hcz hoz hnz2
                        change K (Act.put _ (some 83) _) _
                        refine hK.out _ _ ?hs128 (fun hS3 => ?_)
                        case hs128 => exact hSm
                        clear hK K
                        try simp only [Act.put, List.setIfInBounds_toArray, List.set_cons_zero, List.set_cons_succ]
                        refine takeInH 10 9 ?v129 rfl rfl (by kernel_rfl) (by kernel_rfl) (by kernel_rfl) (fun _ _ _ h => h) (by kernel_rfl) hS3 ?hy129 ?_
                        case hy129 => (intro W hW; clear hW; go_simp; try rfl)
                        simp only [Act.put, List.setIfInBounds_toArray, List.set_cons_zero, List.set_cons_succ]
                        refine wpAnyH_done (by kernel_rfl) ?_ _
                        have HV3 := hide (HV2.out.below hS3)
                        go_wp2
                        go_roundw
                        case rel => exact ⟨i + 1, S2, _, pz, nz, cz, by go_num, rfl, by omega, HV3, HDz, HCz, HOz, HI2⟩
                        case measure => simp [lenV]; omega
                    · go_simp
                      have hb := bel1 W1 bxZ
                      have hSn := bel_next hS1 hb
                      (try replace bD := bD.below hb)
                      (try replace RX := hide (RX.out.below hb))
                      (try replace NX2 := hide (NX2.out.below hb))
                      (try replace DX2 := hide (DX2.out.below hb))
                      have hRx : RC (W1.alloc bxZ) W1.heap.size := heap_alloc_new W1 _
                      have RX := hide hRx
                      clear hRx
                      have hgz : wr.heap.size ≤ W1.heap.size := hS1.size
                      clear hb
                      generalize (W1.alloc bxZ) = W2 at *
                      refine hK.out _ _ ?hs130 (fun hS2 => ?_)
                      case hs130 => exact hSn
                      clear hK K
                      try simp only [Act.put, List.setIfInBounds_toArray, List.set_cons_zero, List.set_cons_succ]
                      refine wpAnyH_ready (rs := [6]) (by kernel_rfl) (by simp) ?_
                      refine AllReadyH.cons rfl (fun K hK => ?_) AllReadyH.nil
                      go_simp
                      refine Calls.mono (HAdd.out _ _ (HNs.out.below hS2) (HDs.out.below hS2) bD) ?_
                      rintro e W3 ⟨⟨p3, k3, b3, p4, k4, b4, rfl, hns3, hcp3, hds3, hcp4, hp3, hp4⟩, hb⟩
                      have hSn := bel_next hS2 hb
                      have hszc := hS2.size
                      have HOs : Hid (Off p3 k3 u5.heap.size ∧ Off p4 k4 u5.heap.size) := ⟨.inr fun a ha => by have := hp3 a ha; omega, .inr fun a ha => by have := hp4 a ha; omega⟩
                      have HOx : Hid (Off p3 k3 W1.heap.size ∧ Off p4 k4 W1.heap.size) := by
                        have hz := RX.out.size
                        exact ⟨.inr fun a ha => by have := hp3 a ha; omega, .inr fun a ha => by have := hp4 a ha; omega⟩
                      clear bD
                      (try replace bD := bD.below hb)
                      (try replace RX := hide (RX.out.below hb))
                      (try replace NX2 := hide (NX2.out.below hb))
                      (try replace DX2 := hide (DX2.out.below hb))
                      have NX2 := hide hns3
                      have DX2 := hide hds3
                      have HC3 := hide hcp3
                      have HC4 := hide hcp4
                      clear hb hns3 hds3 hcp3 hcp4 hp3 hp4 hszc
                      have e0 := RX.out.cells.1
                      have e1 := RX.out.cells.2.1
                      have z0 := RX.out.cells.2.2.1
                      have z1 := RX.out.cells.2.2.2
                      try go_wp2_with fail
                      refine hK.out _ _ ?hs131 (fun hS3 => ?_)
                      case hs131 => exact hSn
                      clear hK K
                      try simp only [Act.put, List.setIfInBounds_toArray, List.set_cons_zero, List.set_cons_succ]
                      refine takeInH 7 61 ?v132 rfl rfl (by kernel_rfl) (by kernel_rfl) (by kernel_rfl) (fun _ _ _ h => h) (by kernel_rfl) hS3 ?hy132 ?_
                      case hy132 => (intro W hW; clear hW; go_simp; try rfl)
                      simp only [Act.put, List.setIfInBounds_toArray, List.set_cons_zero, List.set_cons_succ]
                      refine takeInH 8 69 ?v133 rfl rfl (by kernel_rfl) (by kernel_rfl) (by kernel_rfl) (fun _ _ _ h => h) (by kernel_rfl) hS3 ?hy133 ?_
                      case hy133 => (intro W hW; clear hW; go_simp; try rfl)
                      simp only [Act.put, List.setIfInBounds_toArray, List.set_cons_zero, List.set_cons_succ]
                      refine takeInH 9 70 ?v134 rfl rfl (by kernel_rfl) (by kernel_rfl) (by kernel_rfl) (fun _ _ _ h => h) (by kernel_rfl) hS3 ?hy134 ?_
                      case hy134 => (intro W hW; clear hW; go_simp; try rfl)
                      simp only [Act.put, List.setIfInBounds_toArray, List.set_cons_zero, List.set_cons_succ]
                      refine wpAnyH_ready (rs := [11]) (by kernel_rfl) (by simp) ?_
                      refine AllReadyH.cons rfl (fun K hK => ?_) AllReadyH.nil
                      go_simp
                      refine hK.out _ _ ?hs135 (fun hS4 => ?_)
                      case hs135 => exact ((hS3.setCell (p := ⟨W1.heap.size, 0, none⟩) hgz _).setCell (p := ⟨W1.heap.size, 1, none⟩) hgz _)
                      clear hK K
                      try simp only [Act.put, List.setIfInBounds_toArray, List.set_cons_zero, List.set_cons_succ]
                      refine takeInH 12 14 ?v136 rfl rfl (by kernel_rfl) (by kernel_rfl) (by kernel_rfl) (fun _ _ _ h => h) (by kernel_rfl) hS4 ?hy136 ?_
                      case hy136 => (intro W hW; clear hW; go_simp; try rfl)
                      simp only [Act.put, List.setIfInBounds_toArray, List.set_cons_zero, List.set_cons_succ]
                      refine wpAnyH_done (by kernel_rfl) ?_ _
                      have hGx : ((W3.setCell ⟨W1.heap.size, 0, none⟩ (.slice p3 k3 b3)).setCell ⟨W1.heap.size, 1, none⟩ (.slice p4 k4 b4)).heap[W1.heap.size]? = some (.cells #[.slice p3 k3 b3, .slice p4 k4 b4] 26 (0, 0)) := RX.out.put _ _
                      have X0 : ((W3.setCell ⟨W1.heap.size, 0, none⟩ (.slice p3 k3 b3)).setCell ⟨W1.heap.size, 1, none⟩ (.slice p4 k4 b4)).cell? ⟨W1.heap.size, 0, none⟩ = some (.slice p3 k3 b3) := by rw [cell_of_row _ _ _ _ _ _ hGx]; rfl
                      have X1 : ((W3.setCell ⟨W1.heap.size, 0, none⟩ (.slice p3 k3 b3)).setCell ⟨W1.heap.size, 1, none⟩ (.slice p4 k4 b4)).cell? ⟨W1.heap.size, 1, none⟩ = some (.slice p4 k4 b4) := by rw [cell_of_row _ _ _ _ _ _ hGx]; rfl
                      have NF := hide ((NX2.out.set0 ⟨W1.heap.size, 0, none⟩ (.slice p3 k3 b3) HOx.out.1).set0 ⟨W1.heap.size, 1, none⟩ (.slice p4 k4 b4) HOx.out.1)
                      have DF := hide ((DX2.out.set0 ⟨W1.heap.size, 0, none⟩ (.slice p3 k3 b3) HOx.out.2).set0 ⟨W1.heap.size, 1, none⟩ (.slice p4 k4 b4) HOx.out.2)
                      have gF : ((W3.setCell ⟨W1.heap.size, 0, none⟩ (.slice p3 k3 b3)).setCell ⟨W1.heap.size, 1, none⟩ (.slice p4 k4 b4)).heap[u5.heap.size]? = some (.cells #[.slice q1 j1 b1, .slice q2 j2 b2] 26 (0, 0)) := by rw [hS4.block _ hsg]; exact Hg.out
                      have LF := hide (HLb.out.below hS4)
                      have BF := hide (bel_next HBw.out hS4)
                      have hszf : u5.heap.size < ((W3.setCell ⟨W1.heap.size, 0, none⟩ (.slice p3 k3 b3)).setCell ⟨W1.heap.size, 1, none⟩ (.slice p4 k4 b4)).heap.size := Nat.lt_of_lt_of_le hsg hS4.size
                      clear hGx RX NX2 DX2 HOx e0 e1 z0 z1 hgz hS0 hS1 hS2 hS3 hS4
                      generalize ((W3.setCell ⟨W1.heap.size, 0, none⟩ (.slice p3 k3 b3)).setCell ⟨W1.heap.size, 1, none⟩ (.slice p4 k4 b4)) = uf at *
                      have a0 : uf.cell? ⟨u5.heap.size, 0, none⟩ = some (.slice q1 j1 b1) := by rw [cell_of_row uf _ _ _ _ _ gF]; rfl
                      have a1 : uf.cell? ⟨u5.heap.size, 1, none⟩ = some (.slice q2 j2 b2) := by rw [cell_of_row uf _ _ _ _ _ gF]; rfl
                      have z0 : uf.frozen? ⟨u5.heap.size, 0, none⟩ = false := by simp [World.frozen?, gF]
                      have z1 : uf.frozen? ⟨u5.heap.size, 1, none⟩ = false := by simp [World.frozen?, gF]
                      have HV2 := hide (VS.put BF.out gF NF.out HC3.out DF.out HC4.out HOs.out.1 HOs.out.2)
                      have LG := hide ((LF.out.set0 ⟨u5.heap.size, 0, none⟩ (.slice p3 k3 b3) Hob.out).set0 ⟨u5.heap.size, 1, none⟩ (.slice p4 k4 b4) Hob.out)
                      have hszg : u5.heap.size < ((uf.setCell ⟨u5.heap.size, 0, none⟩ (.slice p3 k3 b3)).setCell ⟨u5.heap.size, 1, none⟩ (.slice p4 k4 b4)).heap.size := by simpa [World.setCell] using hszf
                      clear gF
                      go_wp2
                      clear a0 a1 z0 z1 X0 X1 NF DF BF
                      generalize (uf.setCell ⟨u5.heap.size, 0, none⟩ (.slice p3 k3 b3)).setCell ⟨u5.heap.size, 1, none⟩ (.slice p4 k4 b4) = ug at *
                      have hkI : (0 : Int) ≤ (cb : Int) := by have := HCb2.out.1; omega
                      have hkJ : (1 : Int) ≤ (nb : Int) := by omega
                      have hkC : (1 : Int) ≤ (cb : Int) := by have := HCb2.out.1; omega
                      have hnC : (nb : Int) ≤ (cb : Int) := by have := HCb2.out.1; omega
                      have hwk : IntKind.i64.wrap 1 = 1 := by decide
                      have hlt30 : left.length ≤ 30 := by have := LG.out.1; omega
                      by_cases hcb : cb = 1
                      · have HD2 : Hid (DS ug (some ⟨b, off, none⟩) 0 (left.drop (0 + 1))) := ⟨by rw [List.length_drop, LG.out.1]; have := HCb2.out.1; omega, by decide, .inl rfl⟩
                        subst hcb
                        have hkq : True := trivial
                        have hnq : (nb : Int) ≤ (1 : Int) := by omega
                        have hnq2 : nb = 1 := by omega
                        have hnq3 : nb - (1) = 0 := by omega
                        clear hnq2
                        refine wp_region_held_drew (S := fun W => Below ug.heap.size ug W) (by kernel_rfl) ((Below.refl _ ug).drew) (fun hS0 => ?_)
                        refine takeInH 1 75 ?v137 rfl rfl (by kernel_rfl) (by kernel_rfl) (by kernel_rfl) (fun _ _ _ h => h) (by kernel_rfl) hS0 ?hy137 ?_
                        case hy137 => (intro W hW; clear hW; go_simp; try rfl)
                        simp only [Act.put, List.setIfInBounds_toArray, List.set_cons_zero, List.set_cons_succ]
                        refine takeInH 2 76 ?v138 rfl rfl (by kernel_rfl) (by kernel_rfl) (by kernel_rfl) (fun _ _ _ h => h) (by kernel_rfl) hS0 ?hy138 ?_
                        case hy138 => (intro W hW; clear hW; go_simp; try rfl)
                        simp only [Act.put, List.setIfInBounds_toArray, List.set_cons_zero, List.set_cons_succ]
                        refine takeInH 3 77 ?v139 rfl rfl (by kernel_rfl) (by kernel_rfl) (by kernel_rfl) (fun _ _ _ h => h) (by kernel_rfl) hS0 ?hy139 ?_
                        case hy139 => (intro W hW; clear hW; go_simp; try rfl)
                        simp only [Act.put, List.setIfInBounds_toArray, List.set_cons_zero, List.set_cons_succ]
                        refine takeInH 5 79 ?v140 rfl rfl (by kernel_rfl) (by kernel_rfl) (by kernel_rfl) (fun _ _ _ h => h) (by kernel_rfl) hS0 ?hy140 ?_
                        case hy140 => (intro W hW; clear hW; go_simp; try rfl)
                        simp only [Act.put, List.setIfInBounds_toArray, List.set_cons_zero, List.set_cons_succ]
                        refine takeInH 6 80 ?v141 rfl rfl (by kernel_rfl) (by kernel_rfl) (by kernel_rfl) (fun _ _ _ h => h) (by kernel_rfl) hS0 ?hy141 ?_
                        case hy141 => (intro W hW; clear hW; go_simp; try rfl)
                        simp only [Act.put, List.setIfInBounds_toArray, List.set_cons_zero, List.set_cons_succ]
                        refine takeInH 7 81 ?v142 rfl rfl (by kernel_rfl) (by kernel_rfl) (by kernel_rfl) (fun _ _ _ h => h) (by kernel_rfl) hS0 ?hy142 ?_
                        case hy142 => (intro W hW; clear hW; go_simp; try rfl)
                        simp only [Act.put, List.setIfInBounds_toArray, List.set_cons_zero, List.set_cons_succ]
                        refine takeInH 8 82 ?v143 rfl rfl (by kernel_rfl) (by kernel_rfl) (by kernel_rfl) (fun _ _ _ h => h) (by kernel_rfl) hS0 ?hy143 ?_
                        case hy143 => (intro W hW; clear hW; go_simp; try rfl)
                        simp only [Act.put, List.setIfInBounds_toArray, List.set_cons_zero, List.set_cons_succ]
                        refine wpAnyH_ready (rs := [0]) (by kernel_rfl) (by simp) ?_
                        refine AllReadyH.cons rfl (fun K hK => ?_) AllReadyH.nil
                        go_simp
                        have hSn : Below ug.heap.size ug (ug.alloc (.cells #[] 28)).drew := ((Below.refl _ ug).alloc (Nat.le_refl _) _).drew
                        have HO0 := hide (OwnD.made ug ug.heap.size ug.heap.size rfl (Nat.le_refl _)).drew
                        generalize (ug.alloc (.cells #[] 28)).drew = Z1 at *
                        refine hK.out _ _ ?hs144 (fun hS1 => ?_)
                        case hs144 => exact hSn
                        clear hK K
                        try simp only [Act.put, List.setIfInBounds_toArray, List.set_cons_zero, List.set_cons_succ]
                        refine wpAnyH_ready (rs := [4]) (by kernel_rfl) (by simp) ?_
                        refine AllReadyH.cons rfl (fun K hK => ?_) AllReadyH.nil
                        rw [if_pos (by kernel_rfl)]
                        refine append_wp _ _ rfl ug.heap.size _ [] (left.take 0) rfl HO0.out (some ⟨b, off, none⟩) 0 _ rfl (fun h => by cases h) ((LG.out.head 0 (by omega)).below hS1) (by rw [List.length_take]; simp <;> omega) hS1.size ?_
                        intro v1 Z2 ho1 hb1
                        rw [List.nil_append] at ho1
                        have HO1 := hide ho1
                        have hSm := hb1 _ hS1
                        clear ho1 hb1 HO0
                        change K (Act.put _ (some 78) _) _
                        refine hK.out _ _ ?hs145 (fun hS2 => ?_)
                        case hs145 => exact hSm
                        clear hK K
                        try simp only [Act.put, List.setIfInBounds_toArray, List.set_cons_zero, List.set_cons_succ]
                        refine wpAnyH_ready (rs := [9]) (by kernel_rfl) (by simp) ?_
                        refine AllReadyH.cons rfl (fun K hK => ?_) AllReadyH.nil
                        rw [if_pos (by kernel_rfl)]
                        refine append_wp _ _ rfl ug.heap.size _ (left.take 0) (left.drop (0 + 1)) rfl HO1.out _ _ _ rfl (fun h => by cases h) (HD2.out.below hS2) (by rw [List.length_take, List.length_drop]; omega) hS2.size ?_
                        intro v2 Z3 ho2 hb2
                        obtain ⟨pz, cz, hvz, hdz, hcz⟩ := ho2.open
                        obtain ⟨nz, hnz2⟩ : ∃ nz, nz = (left.take 0 ++ left.drop (0 + 1)).length := ⟨_, rfl⟩
                        rw [← hnz2] at hvz hdz hcz
                        subst hvz
                        have hoz : Off pz nz u5.heap.size := .inr fun a ha => by have := OwnD.blk ho2 a ha; omega
                        have hnz3 : nz + 1 = nb := by rw [hnz2, List.length_append, List.length_take, List.length_drop]; have := LG.out.1; omega
                        have HDz := hide hdz
                        have HCz := hide hcz
                        have HOz := hide hoz
                        have hSm := hb2 _ hS2
                        clear ho2 hb2 hdz hcz hoz hnz2
                        change K (Act.put _ (some 83) _) _
                        refine hK.out _ _ ?hs146 (fun hS3 => ?_)
                        case hs146 => exact hSm
                        clear hK K
                        try simp only [Act.put, List.setIfInBounds_toArray, List.set_cons_zero, List.set_cons_succ]
                        refine takeInH 10 9 ?v147 rfl rfl (by kernel_rfl) (by kernel_rfl) (by kernel_rfl) (fun _ _ _ h => h) (by kernel_rfl) hS3 ?hy147 ?_
                        case hy147 => (intro W hW; clear hW; go_simp; try rfl)
                        simp only [Act.put, List.setIfInBounds_toArray, List.set_cons_zero, List.set_cons_succ]
                        refine wpAnyH_done (by kernel_rfl) ?_ _
                        have HV3 := hide (HV2.out.below hS3)
                        go_wp2
                        go_roundw
                        case rel => exact ⟨i + 1, S2, _, pz, nz, cz, by go_num, rfl, by omega, HV3, HDz, HCz, HOz, HI2⟩
                        case measure => simp [lenV]; omega
                      · have HD2 : Hid (DS ug (some ⟨b, off + (0 + 1) * 2, none⟩) (nb - (0 + 1)) (left.drop (0 + 1))) := by
                          rcases Nat.lt_or_ge (0 + 1) nb with h0 | h0
                          · exact LG.out.mid (0 + 1) h0
                          · exact ⟨by rw [List.length_drop, LG.out.1], by have := HCb2.out.2.1; have := HCb2.out.1; omega, .inl (by omega)⟩
                        refine wp_region_held_drew (S := fun W => Below ug.heap.size ug W) (by kernel_rfl) ((Below.refl _ ug).drew) (fun hS0 => ?_)
                        refine takeInH 1 75 ?v148 rfl rfl (by kernel_rfl) (by kernel_rfl) (by kernel_rfl) (fun _ _ _ h => h) (by kernel_rfl) hS0 ?hy148 ?_
                        case hy148 => (intro W hW; clear hW; go_simp; try rfl)
                        simp only [Act.put, List.setIfInBounds_toArray, List.set_cons_zero, List.set_cons_succ]
                        refine takeInH 2 76 ?v149 rfl rfl (by kernel_rfl) (by kernel_rfl) (by kernel_rfl) (fun _ _ _ h => h) (by kernel_rfl) hS0 ?hy149 ?_
                        case hy149 => (intro W hW; clear hW; go_simp; try rfl)
                        simp only [Act.put, List.setIfInBounds_toArray, List.set_cons_zero, List.set_cons_succ]
                        refine takeInH 3 77 ?v150 rfl rfl (by kernel_rfl) (by kernel_rfl) (by kernel_rfl) (fun _ _ _ h => h) (by kernel_rfl) hS0 ?hy150 ?_
                        case hy150 => (intro W hW; clear hW; go_simp; try rfl)
                        simp only [Act.put, List.setIfInBounds_toArray, List.set_cons_zero, List.set_cons_succ]
                        refine takeInH 5 79 ?v151 rfl rfl (by kernel_rfl) (by kernel_rfl) (by kernel_rfl) (fun _ _ _ h => h) (by kernel_rfl) hS0 ?hy151 ?_
                        case hy151 => (intro W hW; clear hW; go_simp; try rfl)
                        simp only [Act.put, List.setIfInBounds_toArray, List.set_cons_zero, List.set_cons_succ]
                        refine takeInH 6 80 ?v152 rfl rfl (by kernel_rfl) (by kernel_rfl) (by kernel_rfl) (fun _ _ _ h => h) (by kernel_rfl) hS0 ?hy152 ?_
                        case hy152 => (intro W hW; clear hW; go_simp; try rfl)
                        simp only [Act.put, List.setIfInBounds_toArray, List.set_cons_zero, List.set_cons_succ]
                        refine takeInH 7 81 ?v153 rfl rfl (by kernel_rfl) (by kernel_rfl) (by kernel_rfl) (fun _ _ _ h => h) (by kernel_rfl) hS0 ?hy153 ?_
                        case hy153 => (intro W hW; clear hW; go_simp; try rfl)
                        simp only [Act.put, List.setIfInBounds_toArray, List.set_cons_zero, List.set_cons_succ]
                        refine takeInH 8 82 ?v154 rfl rfl (by kernel_rfl) (by kernel_rfl) (by kernel_rfl) (fun _ _ _ h => h) (by kernel_rfl) hS0 ?hy154 ?_
                        case hy154 => (intro W hW; clear hW; go_simp; try rfl)
                        simp only [Act.put, List.setIfInBounds_toArray, List.set_cons_zero, List.set_cons_succ]
                        refine wpAnyH_ready (rs := [0]) (by kernel_rfl) (by simp) ?_
                        refine AllReadyH.cons rfl (fun K hK => ?_) AllReadyH.nil
                        go_simp
                        have hSn : Below ug.heap.size ug (ug.alloc (.cells #[] 28)).drew := ((Below.refl _ ug).alloc (Nat.le_refl _) _).drew
                        have HO0 := hide (OwnD.made ug ug.heap.size ug.heap.size rfl (Nat.le_refl _)).drew
                        generalize (ug.alloc (.cells #[] 28)).drew = Z1 at *
                        refine hK.out _ _ ?hs155 (fun hS1 => ?_)
                        case hs155 => exact hSn
                        clear hK K
                        try simp only [Act.put, List.setIfInBounds_toArray, List.set_cons_zero, List.set_cons_succ]
                        refine wpAnyH_ready (rs := [4]) (by kernel_rfl) (by simp) ?_
                        refine AllReadyH.cons rfl (fun K hK => ?_) AllReadyH.nil
                        rw [if_pos (by kernel_rfl)]
                        refine append_wp _ _ rfl ug.heap.size _ [] (left.take 0) rfl HO0.out (some ⟨b, off, none⟩) 0 _ rfl (fun h => by cases h) ((LG.out.head 0 (by omega)).below hS1) (by rw [List.length_take]; simp <;> omega) hS1.size ?_
                        intro v1 Z2 ho1 hb1
                        rw [List.nil_append] at ho1
                        have HO1 := hide ho1
                        have hSm := hb1 _ hS1
                        clear ho1 hb1 HO0
                        change K (Act.put _ (some 78) _) _
                        refine hK.out _ _ ?hs156 (fun hS2 => ?_)
                        case hs156 => exact hSm
                        clear hK K
                        try simp only [Act.put, List.setIfInBounds_toArray, List.set_cons_zero, List.set_cons_succ]
                        refine wpAnyH_ready (rs := [9]) (by kernel_rfl) (by simp) ?_
                        refine AllReadyH.cons rfl (fun K hK => ?_) AllReadyH.nil
                        rw [if_pos (by kernel_rfl)]
                        refine append_wp _ _ rfl ug.heap.size _ (left.take 0) (left.drop (0 + 1)) rfl HO1.out _ _ _ rfl (fun h => by cases h) (HD2.out.below hS2) (by rw [List.length_take, List.length_drop]; omega) hS2.size ?_
                        intro v2 Z3 ho2 hb2
                        obtain ⟨pz, cz, hvz, hdz, hcz⟩ := ho2.open
                        obtain ⟨nz, hnz2⟩ : ∃ nz, nz = (left.take 0 ++ left.drop (0 + 1)).length := ⟨_, rfl⟩
                        rw [← hnz2] at hvz hdz hcz
                        subst hvz
                        have hoz : Off pz nz u5.heap.size := .inr fun a ha => by have := OwnD.blk ho2 a ha; omega
                        have hnz3 : nz + 1 = nb := by rw [hnz2, List.length_append, List.length_take, List.length_drop]; have := LG.out.1; omega
                        have HDz := hide hdz
                        have HCz := hide hcz
                        have HOz := hide hoz
                        have hSm := hb2 _ hS2
                        clear ho2 hb2 hdz hcz hoz hnz2
                        change K (Act.put _ (some 83) _) _
                        refine hK.out _ _ ?hs157 (fun hS3 => ?_)
                        case hs157 => exact hSm
                        clear hK K
                        try simp only [Act.put, List.setIfInBounds_toArray, List.set_cons_zero, List.set_cons_succ]
                        refine takeInH 10 9 ?v158 rfl rfl (by kernel_rfl) (by kernel_rfl) (by kernel_rfl) (fun _ _ _ h => h) (by kernel_rfl) hS3 ?hy158 ?_
                        case hy158 => (intro W hW; clear hW; go_simp; try rfl)
                        simp only [Act.put, List.setIfInBounds_toArray, List.set_cons_zero, List.set_cons_succ]
                        refine wpAnyH_done (by kernel_rfl) ?_ _
                        have HV3 := hide (HV2.out.below hS3)
                        go_wp2
                        go_roundw
                        case rel => exact ⟨i + 1, S2, _, pz, nz, cz, by go_num, rfl, by omega, HV3, HDz, HCz, HOz, HI2⟩
                        case measure => simp [lenV]; omega
                  · go_simp
                    have hb : Below wr.heap.size wr (wr.alloc bxZ).drew := ((Below.refl _ wr).alloc (Nat.le_refl _) _).drew
                    have hSn := hb
                    (try replace bD := bD.below hb)
                    (try replace RX := hide (RX.out.below hb))
                    (try replace NX2 := hide (NX2.out.below hb))
                    (try replace DX2 := hide (DX2.out.below hb))
                    have hRx : RC (wr.alloc bxZ).drew wr.heap.size := heap_alloc_new wr _
                    have RX := hide hRx
                    clear hRx
                    have hgz : wr.heap.size ≤ wr.heap.size := Nat.le_refl _
                    clear hb
                    generalize (wr.alloc bxZ).drew = W1 at *
                    refine hK.out _ _ ?hs159 (fun hS1 => ?_)
                    case hs159 => exact hSn
                    clear hK K
                    try simp only [Act.put, List.setIfInBounds_toArray, List.set_cons_zero, List.set_cons_succ]
                    refine wpAnyH_ready (rs := [5]) (by kernel_rfl) (by simp) ?_
                    refine AllReadyH.cons rfl (fun K hK => ?_) AllReadyH.nil
                    go_simp
                    have hb := bel1 W1 (.cells #[.int .i64 r9, .int .i64 s9] 28)
                    have hSn := bel_next hS1 hb
                    (try replace bD := bD.below hb)
                    (try replace RX := hide (RX.out.below hb))
                    (try replace NX2 := hide (NX2.out.below hb))
                    (try replace DX2 := hide (DX2.out.below hb))
                    have bD : DS (W1.alloc (.cells #[.int .i64 r9, .int .i64 s9] 28)) (some ⟨W1.heap.size, 0, none⟩) 1 [(r9, s9)] := DS.new W1 _ rfl [(r9, s9)] _ rfl _ _ 1 rfl (by decide)
                    clear hb
                    generalize (W1.alloc (.cells #[.int .i64 r9, .int .i64 s9] 28)) = W2 at *
                    refine hK.out _ _ ?hs160 (fun hS2 => ?_)
                    case hs160 => exact hSn
                    clear hK K
                    try simp only [Act.put, List.setIfInBounds_toArray, List.set_cons_zero, List.set_cons_succ]
                    refine wpAnyH_ready (rs := [6]) (by kernel_rfl) (by simp) ?_
                    refine AllReadyH.cons rfl (fun K hK => ?_) AllReadyH.nil
                    go_simp
                    refine Calls.mono (HAdd.out _ _ (HNs.out.below hS2) (HDs.out.below hS2) bD) ?_
                    rintro e W3 ⟨⟨p3, k3, b3, p4, k4, b4, rfl, hns3, hcp3, hds3, hcp4, hp3, hp4⟩, hb⟩
                    have hSn := bel_next hS2 hb
                    have hszc := hS2.size
                    have HOs : Hid (Off p3 k3 u5.heap.size ∧ Off p4 k4 u5.heap.size) := ⟨.inr fun a ha => by have := hp3 a ha; omega, .inr fun a ha => by have := hp4 a ha; omega⟩
                    have HOx : Hid (Off p3 k3 wr.heap.size ∧ Off p4 k4 wr.heap.size) := by
                      have hz := RX.out.size
                      exact ⟨.inr fun a ha => by have := hp3 a ha; omega, .inr fun a ha => by have := hp4 a ha; omega⟩
                    clear bD
                    (try replace bD := bD.below hb)
                    (try replace RX := hide (RX.out.below hb))
                    (try replace NX2 := hide (NX2.out.below hb))
                    (try replace DX2 := hide (DX2.out.below hb))
                    have NX2 := hide hns3
                    have DX2 := hide hds3
                    have HC3 := hide hcp3
                    have HC4 := hide hcp4
                    clear hb hns3 hds3 hcp3 hcp4 hp3 hp4 hszc
                    have e0 := RX.out.cells.1
                    have e1 := RX.out.cells.2.1
                    have z0 := RX.out.cells.2.2.1
                    have z1 := RX.out.cells.2.2.2
                    try go_wp2_with fail
                    refine hK.out _ _ ?hs161 (fun hS3 => ?_)
                    case hs161 => exact hSn
                    clear hK K
                    try simp only [Act.put, List.setIfInBounds_toArray, List.set_cons_zero, List.set_cons_succ]
                    refine takeInH 7 61 ?v162 rfl rfl (by kernel_rfl) (by kernel_rfl) (by kernel_rfl) (fun _ _ _ h => h) (by kernel_rfl) hS3 ?hy162 ?_
                    case hy162 => (intro W hW; clear hW; go_simp; try rfl)
                    simp only [Act.put, List.setIfInBounds_toArray, List.set_cons_zero, List.set_cons_succ]
                    refine takeInH 8 69 ?v163 rfl rfl (by kernel_rfl) (by kernel_rfl) (by kernel_rfl) (fun _ _ _ h => h) (by kernel_rfl) hS3 ?hy163 ?_
                    case hy163 => (intro W hW; clear hW; go_simp; try rfl)
                    simp only [Act.put, List.setIfInBounds_toArray, List.set_cons_zero, List.set_cons_succ]
                    refine takeInH 9 70 ?v164 rfl rfl (by kernel_rfl) (by kernel_rfl) (by kernel_rfl) (fun _ _ _ h => h) (by kernel_rfl) hS3 ?hy164 ?_
                    case hy164 => (intro W hW; clear hW; go_simp; try rfl)
                    simp only [Act.put, List.setIfInBounds_toArray, List.set_cons_zero, List.set_cons_succ]
                    refine wpAnyH_ready (rs := [11]) (by kernel_rfl) (by simp) ?_
                    refine AllReadyH.cons rfl (fun K hK => ?_) AllReadyH.nil
                    go_simp
                    refine hK.out _ _ ?hs165 (fun hS4 => ?_)
                    case hs165 => exact ((hS3.setCell (p := ⟨wr.heap.size, 0, none⟩) hgz _).setCell (p := ⟨wr.heap.size, 1, none⟩) hgz _)
                    clear hK K
                    try simp only [Act.put, List.setIfInBounds_toArray, List.set_cons_zero, List.set_cons_succ]
                    refine takeInH 12 14 ?v166 rfl rfl (by kernel_rfl) (by kernel_rfl) (by kernel_rfl) (fun _ _ _ h => h) (by kernel_rfl) hS4 ?hy166 ?_
                    case hy166 => (intro W hW; clear hW; go_simp; try rfl)
                    simp only [Act.put, List.setIfInBounds_toArray, List.set_cons_zero, List.set_cons_succ]
                    refine wpAnyH_done (by kernel_rfl) ?_ _
                    have hGx : ((W3.setCell ⟨wr.heap.size, 0, none⟩ (.slice p3 k3 b3)).setCell ⟨wr.heap.size, 1, none⟩ (.slice p4 k4 b4)).heap[wr.heap.size]? = some (.cells #[.slice p3 k3 b3, .slice p4 k4 b4] 26 (0, 0)) := RX.out.put _ _
                    have X0 : ((W3.setCell ⟨wr.heap.size, 0, none⟩ (.slice p3 k3 b3)).setCell ⟨wr.heap.size, 1, none⟩ (.slice p4 k4 b4)).cell? ⟨wr.heap.size, 0, none⟩ = some (.slice p3 k3 b3) := by rw [cell_of_row _ _ _ _ _ _ hGx]; rfl
                    have X1 : ((W3.setCell ⟨wr.heap.size, 0, none⟩ (.slice p3 k3 b3)).setCell ⟨wr.heap.size, 1, none⟩ (.slice p4 k4 b4)).cell? ⟨wr.heap.size, 1, none⟩ = some (.slice p4 k4 b4) := by rw [cell_of_row _ _ _ _ _ _ hGx]; rfl
                    have NF := hide ((NX2.out.set0 ⟨wr.heap.size, 0, none⟩ (.slice p3 k3 b3) HOx.out.1).set0 ⟨wr.heap.size, 1, none⟩ (.slice p4 k4 b4) HOx.out.1)
                    have DF := hide ((DX2.out.set0 ⟨wr.heap.size, 0, none⟩ (.slice p3 k3 b3) HOx.out.2).set0 ⟨wr.heap.size, 1, none⟩ (.slice p4 k4 b4) HOx.out.2)
                    have gF : ((W3.setCell ⟨wr.heap.size, 0, none⟩ (.slice p3 k3 b3)).setCell ⟨wr.heap.size, 1, none⟩ (.slice p4 k4 b4)).heap[u5.heap.size]? = some (.cells #[.slice q1 j1 b1, .slice q2 j2 b2] 26 (0, 0)) := by rw [hS4.block _ hsg]; exact Hg.out
                    have LF := hide (HLb.out.below hS4)
                    have BF := hide (bel_next HBw.out hS4)
                    have hszf : u5.heap.size < ((W3.setCell ⟨wr.heap.size, 0, none⟩ (.slice p3 k3 b3)).setCell ⟨wr.heap.size, 1, none⟩ (.slice p4 k4 b4)).heap.size := Nat.lt_of_lt_of_le hsg hS4.size
                    clear hGx RX NX2 DX2 HOx e0 e1 z0 z1 hgz hS0 hS1 hS2 hS3 hS4
                    generalize ((W3.setCell ⟨wr.heap.size, 0, none⟩ (.slice p3 k3 b3)).setCell ⟨wr.heap.size, 1, none⟩ (.slice p4 k4 b4)) = uf at *
                    have a0 : uf.cell? ⟨u5.heap.size, 0, none⟩ = some (.slice q1 j1 b1) := by rw [cell_of_row uf _ _ _ _ _ gF]; rfl
                    have a1 : uf.cell? ⟨u5.heap.size, 1, none⟩ = some (.slice q2 j2 b2) := by rw [cell_of_row uf _ _ _ _ _ gF]; rfl
                    have z0 : uf.frozen? ⟨u5.heap.size, 0, none⟩ = false := by simp [World.frozen?, gF]
                    have z1 : uf.frozen? ⟨u5.heap.size, 1, none⟩ = false := by simp [World.frozen?, gF]
                    have HV2 := hide (VS.put BF.out gF NF.out HC3.out DF.out HC4.out HOs.out.1 HOs.out.2)
                    have LG := hide ((LF.out.set0 ⟨u5.heap.size, 0, none⟩ (.slice p3 k3 b3) Hob.out).set0 ⟨u5.heap.size, 1, none⟩ (.slice p4 k4 b4) Hob.out)
                    have hszg : u5.heap.size < ((uf.setCell ⟨u5.heap.size, 0, none⟩ (.slice p3 k3 b3)).setCell ⟨u5.heap.size, 1, none⟩ (.slice p4 k4 b4)).heap.size := by simpa [World.setCell] using hszf
                    clear gF
                    go_wp2
                    clear a0 a1 z0 z1 X0 X1 NF DF BF
                    generalize (uf.setCell ⟨u5.heap.size, 0, none⟩ (.slice p3 k3 b3)).setCell ⟨u5.heap.size, 1, none⟩ (.slice p4 k4 b4) = ug at *
                    have hkI : (0 : Int) ≤ (cb : Int) := by have := HCb2.out.1; omega
                    have hkJ : (1 : Int) ≤ (nb : Int) := by omega
                    have hkC : (1 : Int) ≤ (cb : Int) := by have := HCb2.out.1; omega
                    have hnC : (nb : Int) ≤ (cb : Int) := by have := HCb2.out.1; omega
                    have hwk : IntKind.i64.wrap 1 = 1 := by decide
                    have hlt30 : left.length ≤ 30 := by have := LG.out.1; omega
                    by_cases hcb : cb = 1
                    · have HD2 : Hid (DS ug (some ⟨b, off, none⟩) 0 (left.drop (0 + 1))) := ⟨by rw [List.length_drop, LG.out.1]; have := HCb2.out.1; omega, by decide, .inl rfl⟩
                      subst hcb
                      have hkq : True := trivial
                      have hnq : (nb : Int) ≤ (1 : Int) := by omega
                      have hnq2 : nb = 1 := by omega
                      have hnq3 : nb - (1) = 0 := by omega
                      clear hnq2
                      refine wp_region_held_drew (S := fun W => Below ug.heap.size ug W) (by kernel_rfl) ((Below.refl _ ug).drew) (fun hS0 => ?_)
                      refine takeInH 1 75 ?v167 rfl rfl (by kernel_rfl) (by kernel_rfl) (by kernel_rfl) (fun _ _ _ h => h) (by kernel_rfl) hS0 ?hy167 ?_
                      case hy167 => (intro W hW; clear hW; go_simp; try rfl)
                      simp only [Act.put, List.setIfInBounds_toArray, List.set_cons_zero, List.set_cons_succ]
                      refine takeInH 2 76 ?v168 rfl rfl (by kernel_rfl) (by kernel_rfl) (by kernel_rfl) (fun _ _ _ h => h) (by kernel_rfl) hS0 ?hy168 ?_
                      case hy168 => (intro W hW; clear hW; go_simp; try rfl)
                      simp only [Act.put, List.setIfInBounds_toArray, List.set_cons_zero, List.set_cons_succ]
                      refine takeInH 3 77 ?v169 rfl rfl (by kernel_rfl) (by kernel_rfl) (by kernel_rfl) (fun _ _ _ h => h) (by kernel_rfl) hS0 ?hy169 ?_
                      case hy169 => (intro W hW; clear hW; go_simp; try rfl)
                      simp only [Act.put, List.setIfInBounds_toArray, List.set_cons_zero, List.set_cons_succ]
                      refine takeInH 5 79 ?v170 rfl rfl (by kernel_rfl) (by kernel_rfl) (by kernel_rfl) (fun _ _ _ h => h) (by kernel_rfl) hS0 ?hy170 ?_
                      case hy170 => (intro W hW; clear hW; go_simp; try rfl)
                      simp only [Act.put, List.setIfInBounds_toArray, List.set_cons_zero, List.set_cons_succ]
                      refine takeInH 6 80 ?v171 rfl rfl (by kernel_rfl) (by kernel_rfl) (by kernel_rfl) (fun _ _ _ h => h) (by kernel_rfl) hS0 ?hy171 ?_
                      case hy171 => (intro W hW; clear hW; go_simp; try rfl)
                      simp only [Act.put, List.setIfInBounds_toArray, List.set_cons_zero, List.set_cons_succ]
                      refine takeInH 7 81 ?v172 rfl rfl (by kernel_rfl) (by kernel_rfl) (by kernel_rfl) (fun _ _ _ h => h) (by kernel_rfl) hS0 ?hy172 ?_
                      case hy172 => (intro W hW; clear hW; go_simp; try rfl)
                      simp only [Act.put, List.setIfInBounds_toArray, List.set_cons_zero, List.set_cons_succ]
                      refine takeInH 8 82 ?v173 rfl rfl (by kernel_rfl) (by kernel_rfl) (by kernel_rfl) (fun _ _ _ h => h) (by kernel_rfl) hS0 ?hy173 ?_
                      case hy173 => (intro W hW; clear hW; go_simp; try rfl)
                      simp only [Act.put, List.setIfInBounds_toArray, List.set_cons_zero, List.set_cons_succ]
                      refine wpAnyH_ready (rs := [0]) (by kernel_rfl) (by simp) ?_
                      refine AllReadyH.cons rfl (fun K hK => ?_) AllReadyH.nil
                      go_simp
                      have hSn : Below ug.heap.size ug (ug.alloc (.cells #[] 28)).drew := ((Below.refl _ ug).alloc (Nat.le_refl _) _).drew
                      have HO0 := hide (OwnD.made ug ug.heap.size ug.heap.size rfl (Nat.le_refl _)).drew
                      generalize (ug.alloc (.cells #[] 28)).drew = Z1 at *
                      refine hK.out _ _ ?hs174 (fun hS1 => ?_)
                      case hs174 => exact hSn
                      clear hK K
                      try simp only [Act.put, List.setIfInBounds_toArray, List.set_cons_zero, List.set_cons_succ]
                      refine wpAnyH_ready (rs := [4]) (by kernel_rfl) (by simp) ?_
                      refine AllReadyH.cons rfl (fun K hK => ?_) AllReadyH.nil
                      rw [if_pos (by kernel_rfl)]
                      refine append_wp _ _ rfl ug.heap.size _ [] (left.take 0) rfl HO0.out (some ⟨b, off, none⟩) 0 _ rfl (fun h => by cases h) ((LG.out.head 0 (by omega)).below hS1) (by rw [List.length_take]; simp <;> omega) hS1.size ?_
                      intro v1 Z2 ho1 hb1
                      rw [List.nil_append] at ho1
                      have HO1 := hide ho1
                      have hSm := hb1 _ hS1
                      clear ho1 hb1 HO0
                      change K (Act.put _ (some 78) _) _
                      refine hK.out _ _ ?hs175 (fun hS2 => ?_)
                      case hs175 => exact hSm
                      clear hK K
                      try simp only [Act.put, List.setIfInBounds_toArray, List.set_cons_zero, List.set_cons_succ]
                      refine wpAnyH_ready (rs := [9]) (by kernel_rfl) (by simp) ?_
                      refine AllReadyH.cons rfl (fun K hK => ?_) AllReadyH.nil
                      rw [if_pos (by kernel_rfl)]
                      refine append_wp _ _ rfl ug.heap.size _ (left.take 0) (left.drop (0 + 1)) rfl HO1.out _ _ _ rfl (fun h => by cases h) (HD2.out.below hS2) (by rw [List.length_take, List.length_drop]; omega) hS2.size ?_
                      intro v2 Z3 ho2 hb2
                      obtain ⟨pz, cz, hvz, hdz, hcz⟩ := ho2.open
                      obtain ⟨nz, hnz2⟩ : ∃ nz, nz = (left.take 0 ++ left.drop (0 + 1)).length := ⟨_, rfl⟩
                      rw [← hnz2] at hvz hdz hcz
                      subst hvz
                      have hoz : Off pz nz u5.heap.size := .inr fun a ha => by have := OwnD.blk ho2 a ha; omega
                      have hnz3 : nz + 1 = nb := by rw [hnz2, List.length_append, List.length_take, List.length_drop]; have := LG.out.1; omega
                      have HDz := hide hdz
                      have HCz := hide hcz
                      have HOz := hide hoz
                      have hSm := hb2 _ hS2
                      clear ho2 hb2 hdz hcz hoz hnz2
                      change K (Act.put _ (some 83) _) _
                      refine hK.out _ _ ?hs176 (fun hS3 => ?_)
                      case hs176 => exact hSm
                      clear hK K
                      try simp only [Act.put, List.setIfInBounds_toArray, List.set_cons_zero, List.set_cons_succ]
                      refine takeInH 10 9 ?v177 rfl rfl (by kernel_rfl) (by kernel_rfl) (by kernel_rfl) (fun _ _ _ h => h) (by kernel_rfl) hS3 ?hy177 ?_
                      case hy177 => (intro W hW; clear hW; go_simp; try rfl)
                      simp only [Act.put, List.setIfInBounds_toArray, List.set_cons_zero, List.set_cons_succ]
                      refine wpAnyH_done (by kernel_rfl) ?_ _
                      have HV3 := hide (HV2.out.below hS3)
                      go_wp2
                      go_roundw
                      case rel => exact ⟨i + 1, S2, _, pz, nz, cz, by go_num, rfl, by omega, HV3, HDz, HCz, HOz, HI2⟩
                      case measure => simp [lenV]; omega
                    · have HD2 : Hid (DS ug (some ⟨b, off + (0 + 1) * 2, none⟩) (nb - (0 + 1)) (left.drop (0 + 1))) := by
                        rcases Nat.lt_or_ge (0 + 1) nb with h0 | h0
                        · exact LG.out.mid (0 + 1) h0
                        · exact ⟨by rw [List.length_drop, LG.out.1], by have := HCb2.out.2.1; have := HCb2.out.1; omega, .inl (by omega)⟩
                      refine wp_region_held_drew (S := fun W => Below ug.heap.size ug W) (by kernel_rfl) ((Below.refl _ ug).drew) (fun hS0 => ?_)
                      refine takeInH 1 75 ?v178 rfl rfl (by kernel_rfl) (by kernel_rfl) (by kernel_rfl) (fun _ _ _ h => h) (by kernel_rfl) hS0 ?hy178 ?_
                      case hy178 => (intro W hW; clear hW; go_simp; try rfl)
                      simp only [Act.put, List.setIfInBounds_toArray, List.set_cons_zero, List.set_cons_succ]
                      refine takeInH 2 76 ?v179 rfl rfl (by kernel_rfl) (by kernel_rfl) (by kernel_rfl) (fun _ _ _ h => h) (by kernel_rfl) hS0 ?hy179 ?_
                      case hy179 => (intro W hW; clear hW; go_simp; try rfl)
                      simp only [Act.put, List.setIfInBounds_toArray, List.set_cons_zero, List.set_cons_succ]
                      refine takeInH 3 77 ?v180 rfl rfl (by kernel_rfl) (by kernel_rfl) (by kernel_rfl) (fun _ _ _ h => h) (by kernel_rfl) hS0 ?hy180 ?_
                      case hy180 => (intro W hW; clear hW; go_simp; try rfl)
                      simp only [Act.put, List.setIfInBounds_toArray, List.set_cons_zero, List.set_cons_succ]
                      refine takeInH 5 79 ?v181 rfl rfl (by kernel_rfl) (by kernel_rfl) (by kernel_rfl) (fun _ _ _ h => h) (by kernel_rfl) hS0 ?hy181 ?_
                      case hy181 => (intro W hW; clear hW; go_simp; try rfl)
                      simp only [Act.put, List.setIfInBounds_toArray, List.set_cons_zero, List.set_cons_succ]
                      refine takeInH 6 80 ?v182 rfl rfl (by kernel_rfl) (by kernel_rfl) (by kernel_rfl) (fun _ _ _ h => h) (by kernel_rfl) hS0 ?hy182 ?_
                      case hy182 => (intro W hW; clear hW; go_simp; try rfl)
                      simp only [Act.put, List.setIfInBounds_toArray, List.set_cons_zero, List.set_cons_succ]
                      refine takeInH 7 81 ?v183 rfl rfl (by kernel_rfl) (by kernel_rfl) (by kernel_rfl) (fun _ _ _ h => h) (by kernel_rfl) hS0 ?hy183 ?_
                      case hy183 => (intro W hW; clear hW; go_simp; try rfl)
                      simp only [Act.put, List.setIfInBounds_toArray, List.set_cons_zero, List.set_cons_succ]
                      refine takeInH 8 82 ?v184 rfl rfl (by kernel_rfl) (by kernel_rfl) (by kernel_rfl) (fun _ _ _ h => h) (by kernel_rfl) hS0 ?hy184 ?_
                      case hy184 => (intro W hW; clear hW; go_simp; try rfl)
                      simp only [Act.put, List.setIfInBounds_toArray, List.set_cons_zero, List.set_cons_succ]
                      refine wpAnyH_ready (rs := [0]) (by kernel_rfl) (by simp) ?_
                      refine AllReadyH.cons rfl (fun K hK => ?_) AllReadyH.nil
                      go_simp
                      have hSn : Below ug.heap.size ug (ug.alloc (.cells #[] 28)).drew := ((Below.refl _ ug).alloc (Nat.le_refl _) _).drew
                      have HO0 := hide (OwnD.made ug ug.heap.size ug.heap.size rfl (Nat.le_refl _)).drew
                      generalize (ug.alloc (.cells #[] 28)).drew = Z1 at *
                      refine hK.out _ _ ?hs185 (fun hS1 => ?_)
                      case hs185 => exact hSn
                      clear hK K
                      try simp only [Act.put, List.setIfInBounds_toArray, List.set_cons_zero, List.set_cons_succ]
                      refine wpAnyH_ready (rs := [4]) (by kernel_rfl) (by simp) ?_
                      refine AllReadyH.cons rfl (fun K hK => ?_) AllReadyH.nil
                      rw [if_pos (by kernel_rfl)]
                      refine append_wp _ _ rfl ug.heap.size _ [] (left.take 0) rfl HO0.out (some ⟨b, off, none⟩) 0 _ rfl (fun h => by cases h) ((LG.out.head 0 (by omega)).below hS1) (by rw [List.length_take]; simp <;> omega) hS1.size ?_
                      intro v1 Z2 ho1 hb1
                      rw [List.nil_append] at ho1
                      have HO1 := hide ho1
                      have hSm := hb1 _ hS1
                      clear ho1 hb1 HO0
                      change K (Act.put _ (some 78) _) _
                      refine hK.out _ _ ?hs186 (fun hS2 => ?_)
                      case hs186 => exact hSm
                      clear hK K
                      try simp only [Act.put, List.setIfInBounds_toArray, List.set_cons_zero, List.set_cons_succ]
                      refine wpAnyH_ready (rs := [9]) (by kernel_rfl) (by simp) ?_
                      refine AllReadyH.cons rfl (fun K hK => ?_) AllReadyH.nil
                      rw [if_pos (by kernel_rfl)]
                      refine append_wp _ _ rfl ug.heap.size _ (left.take 0) (left.drop (0 + 1)) rfl HO1.out _ _ _ rfl (fun h => by cases h) (HD2.out.below hS2) (by rw [List.length_take, List.length_drop]; omega) hS2.size ?_
                      intro v2 Z3 ho2 hb2
                      obtain ⟨pz, cz, hvz, hdz, hcz⟩ := ho2.open
                      obtain ⟨nz, hnz2⟩ : ∃ nz, nz = (left.take 0 ++ left.drop (0 + 1)).length := ⟨_, rfl⟩
                      rw [← hnz2] at hvz hdz hcz
                      subst hvz
                      have hoz : Off pz nz u5.heap.size := .inr fun a ha => by have := OwnD.blk ho2 a ha; omega
                      have hnz3 : nz + 1 = nb := by rw [hnz2, List.length_append, List.length_take, List.length_drop]; have := LG.out.1; omega
                      have HDz := hide hdz
                      have HCz := hide hcz
                      have HOz := hide hoz
                      have hSm := hb2 _ hS2
                      clear ho2 hb2 hdz hcz hoz hnz2
                      change K (Act.put _ (some 83) _) _
                      refine hK.out _ _ ?hs187 (fun hS3 => ?_)
                      case hs187 => exact hSm
                      clear hK K
                      try simp only [Act.put, List.setIfInBounds_toArray, List.set_cons_zero, List.set_cons_succ]
                      refine takeInH 10 9 ?v188 rfl rfl (by kernel_rfl) (by kernel_rfl) (by kernel_rfl) (fun _ _ _ h => h) (by kernel_rfl) hS3 ?hy188 ?_
                      case hy188 => (intro W hW; clear hW; go_simp; try rfl)
                      simp only [Act.put, List.setIfInBounds_toArray, List.set_cons_zero, List.set_cons_succ]
                      refine wpAnyH_done (by kernel_rfl) ?_ _
                      have HV3 := hide (HV2.out.below hS3)
                      go_wp2
                      go_roundw
                      case rel => exact ⟨i + 1, S2, _, pz, nz, cz, by go_num, rfl, by omega, HV3, HDz, HCz, HOz, HI2⟩
                      case measure => simp [lenV]; omega
            · have hle0 : left = [] := List.eq_nil_of_length_eq_zero (by omega)
              have hn0 : ¬ ((nb : Int) > 0) := by omega
              subst hle0
              have hE := HEnd.out S HI.out
              obtain ⟨hB, q1, j1, b1, q2, j2, b2, hg, hns, hcp, hds, hcq, ho1, ho2⟩ := HV.out
              have w0c : wr.cell? ⟨u5.heap.size, 0, none⟩ = some (.slice q1 j1 b1) := by rw [cell_of_row wr _ _ _ _ _ hg]; rfl
              have w1c : wr.cell? ⟨u5.heap.size, 1, none⟩ = some (.slice q2 j2 b2) := by rw [cell_of_row wr _ _ _ _ _ hg]; rfl
              have HHs := hide (fun W (h1 : NS W q1 j1 (pln S.1)) (h2 : DS W q2 j2 S.2) => Has_any q1 q2 j1 b1 j2 b2 (pln S.1) S.2 (r, s) W h1 h2)
              rw [hE.2.1, hE.2.2 (r, s) Hm.out] at HHs
              have hSA := hE.1
              rw [← hSA] at NX DX
              have HTs2 := hide (fun W (h1 : NS W q1 j1 (pln S.1)) (h2 : DS W q2 j2 S.2) (h3 : NS W p1 k1 (pln S.1)) (h4 : DS W p2 k2 S.2) => SameR_any q1 q2 p1 p2 j1 b1 j2 b2 k1 e1 k2 e2 (pln S.1) (pln S.1) S.2 S.2 W h1 h2 h3 h4)
              rw [decide_eq_true rfl, decide_eq_true rfl] at HTs2
              generalize decide ((r, s) ∈ l) = bi at *
              have HNs := hide hns
              have HDs := hide hds
              replace d0 := bcell hB d0
              replace d1 := bcell hB d1
              replace x0 := bcell hB x0
              replace x1 := bcell hB x1
              replace NX := hide (NX.out.below hB)
              replace DX := hide (DX.out.below hB)
              replace HU := hide (bel_next HU.out hB)
              clear hB hg hns hcp hds hcq ho1 ho2 hE hSA HV HI HLb HEnd HI0
              generalize wr = u9 at *
              go_wp2
              refine wp_region_held_drew (S := fun W => Below u9.heap.size u9 W) (by kernel_rfl) ((Below.refl _ u9).drew) (fun hS0 => ?_)
              refine takeInH 0 84 ?v189 rfl rfl (by kernel_rfl) (by kernel_rfl) (by kernel_rfl) (fun _ _ _ h => h) (by kernel_rfl) hS0 ?hy189 ?_
              case hy189 => (intro W hW; clear hW; go_simp; try rfl)
              simp only [Act.put, List.setIfInBounds_toArray, List.set_cons_zero, List.set_cons_succ]
              refine takeInH 1 85 ?v190 rfl rfl (by kernel_rfl) (by kernel_rfl) (by kernel_rfl) (fun _ _ _ h => h) (by kernel_rfl) hS0 ?hy190 ?_
              case hy190 => (intro W hW; clear hW; go_simp; try rfl)
              simp only [Act.put, List.setIfInBounds_toArray, List.set_cons_zero, List.set_cons_succ]
              refine takeInH 2 86 ?v191 rfl rfl (by kernel_rfl) (by kernel_rfl) (by kernel_rfl) (fun _ _ _ h => h) (by kernel_rfl) hS0 ?hy191 ?_
              case hy191 => (intro W hW; clear hW; go_simp; try rfl)
              simp only [Act.put, List.setIfInBounds_toArray, List.set_cons_zero, List.set_cons_succ]
              refine takeInH 3 87 ?v192 rfl rfl (by kernel_rfl) (by kernel_rfl) (by kernel_rfl) (fun _ _ _ h => h) (by kernel_rfl) hS0 ?hy192 ?_
              case hy192 => (intro W hW; have e0 := bcell hW d0; have e1 := bcell hW d1; have e2 := bcell hW x0; have e3 := bcell hW x1; have e4 := bcell hW w0c; have e5 := bcell hW w1c; clear hW; go_simp; try rfl)
              simp only [Act.put, List.setIfInBounds_toArray, List.set_cons_zero, List.set_cons_succ]
              refine takeInH 4 88 ?v193 rfl rfl (by kernel_rfl) (by kernel_rfl) (by kernel_rfl) (fun _ _ _ h => h) (by kernel_rfl) hS0 ?hy193 ?_
              case hy193 => (intro W hW; have e0 := bcell hW d0; have e1 := bcell hW d1; have e2 := bcell hW x0; have e3 := bcell hW x1; have e4 := bcell hW w0c; have e5 := bcell hW w1c; clear hW; go_simp; try rfl)
              simp only [Act.put, List.setIfInBounds_toArray, List.set_cons_zero, List.set_cons_succ]
              refine wpAnyH_ready (rs := [5]) (by kernel_rfl) (by simp) ?_
              refine AllReadyH.cons rfl (fun K hK => ?_) AllReadyH.nil
              go_simp
              refine Calls.mono (HTs2.out _ (HNs.out.below hS0) (HDs.out.below hS0) (NX.out.below hS0) (DX.out.below hS0)) ?_
              rintro e w' ⟨rfl, hb⟩
              try go_wp2_with fail
              refine hK.out _ _ ?hs194 (fun hS1 => ?_)
              case hs194 => exact bel_next hS0 hb
              clear hK K hb
              try simp only [Act.put, List.setIfInBounds_toArray, List.set_cons_zero, List.set_cons_succ]
              refine takeInH 6 90 ?v195 rfl rfl (by kernel_rfl) (by kernel_rfl) (by kernel_rfl) (fun _ _ _ h => h) (by kernel_rfl) hS1 ?hy195 ?_
              case hy195 => (intro W hW; clear hW; go_simp; try rfl)
              simp only [Act.put, List.setIfInBounds_toArray, List.set_cons_zero, List.set_cons_succ]
              refine takeInH 7 91 ?v196 rfl rfl (by kernel_rfl) (by kernel_rfl) (by kernel_rfl) (fun _ _ _ h => h) (by kernel_rfl) hS1 ?hy196 ?_
              case hy196 => (intro W hW; clear hW; go_simp; try rfl)
              simp only [Act.put, List.setIfInBounds_toArray, List.set_cons_zero, List.set_cons_succ]
              refine takeInH 8 92 ?v197 rfl rfl (by kernel_rfl) (by kernel_rfl) (by kernel_rfl) (fun _ _ _ h => h) (by kernel_rfl) hS1 ?hy197 ?_
              case hy197 => (intro W hW; have e0 := bcell hW d0; have e1 := bcell hW d1; have e2 := bcell hW x0; have e3 := bcell hW x1; have e4 := bcell hW w0c; have e5 := bcell hW w1c; clear hW; go_simp; try rfl)
              simp only [Act.put, List.setIfInBounds_toArray, List.set_cons_zero, List.set_cons_succ]
              refine takeInH 9 93 ?v198 rfl rfl (by kernel_rfl) (by kernel_rfl) (by kernel_rfl) (fun _ _ _ h => h) (by kernel_rfl) hS1 ?hy198 ?_
              case hy198 => (intro W hW; have e0 := bcell hW d0; have e1 := bcell hW d1; have e2 := bcell hW x0; have e3 := bcell hW x1; have e4 := bcell hW w0c; have e5 := bcell hW w1c; clear hW; go_simp; try rfl)
              simp only [Act.put, List.setIfInBounds_toArray, List.set_cons_zero, List.set_cons_succ]
              refine takeInH 11 95 ?v199 rfl rfl (by kernel_rfl) (by kernel_rfl) (by kernel_rfl) (fun _ _ _ h => h) (by kernel_rfl) hS1 ?hy199 ?_
              case hy199 => (intro W hW; clear hW; go_simp; try rfl)
              simp only [Act.put, List.setIfInBounds_toArray, List.set_cons_zero, List.set_cons_succ]
              refine takeInH 12 96 ?v200 rfl rfl (by kernel_rfl) (by kernel_rfl) (by kernel_rfl) (fun _ _ _ h => h) (by kernel_rfl) hS1 ?hy200 ?_
              case hy200 => (intro W hW; have e0 := bcell hW d0; have e1 := bcell hW d1; have e2 := bcell hW x0; have e3 := bcell hW x1; have e4 := bcell hW w0c; have e5 := bcell hW w1c; clear hW; go_simp; try rfl)
              simp only [Act.put, List.setIfInBounds_toArray, List.set_cons_zero, List.set_cons_succ]
              refine wpAnyH_ready (rs := [10]) (by kernel_rfl) (by simp) ?_
              refine AllReadyH.cons rfl (fun K hK => ?_) AllReadyH.nil
              go_simp
              refine Calls.mono (HHs.out _ (HNs.out.below hS1) (HDs.out.below hS1)) ?_
              rintro e w' ⟨rfl, hb⟩
              try go_wp2_with fail
              refine hK.out _ _ ?hs201 (fun hS2 => ?_)
              case hs201 => exact bel_next hS1 hb
              clear hK K hb
              try simp only [Act.put, List.setIfInBounds_toArray, List.set_cons_zero, List.set_cons_succ]
              refine wpAnyH_ready (rs := [13]) (by kernel_rfl) (by simp) ?_
              refine AllReadyH.cons rfl (fun K hK => ?_) AllReadyH.nil
              go_simp
              refine Calls.mono (HIn.out _ (HLs.out.below (bel_next HU.out hS2))) ?_
              rintro e w' ⟨rfl, hb⟩
              try go_wp2_with fail
              refine hK.out _ _ ?hs202 (fun hS3 => ?_)
              case hs202 => exact bel_next hS2 hb
              clear hK K hb
              try simp only [Act.put, List.setIfInBounds_toArray, List.set_cons_zero, List.set_cons_succ]
              refine takeInH 14 98 ?v203 rfl rfl (by kernel_rfl) (by kernel_rfl) (by kernel_rfl) (fun _ _ _ h => h) (by kernel_rfl) hS3 ?hy203 ?_
              case hy203 => (intro W hW; clear hW; go_simp; try rfl)
              simp only [Act.put, List.setIfInBounds_toArray, List.set_cons_zero, List.set_cons_succ]
              refine takeInH 15 99 ?v204 rfl rfl (by kernel_rfl) (by kernel_rfl) (by kernel_rfl) (fun _ _ _ h => h) (by kernel_rfl) hS3 ?hy204 ?_
              case hy204 => (intro W hW; clear hW; go_simp; try rfl)
              simp only [Act.put, List.setIfInBounds_toArray, List.set_cons_zero, List.set_cons_succ]
              refine takeInH 16 100 ?v205 rfl rfl (by kernel_rfl) (by kernel_rfl) (by kernel_rfl) (fun _ _ _ h => h) (by kernel_rfl) hS3 ?hy205 ?_
              case hy205 => (intro W hW; clear hW; go_simp; try rfl)
              simp only [Act.put, List.setIfInBounds_toArray, List.set_cons_zero, List.set_cons_succ]
              refine wpAnyH_ready (rs := [17]) (by kernel_rfl) (by simp) ?_
              refine AllReadyH.cons rfl (fun K hK => ?_) AllReadyH.nil
              go_simp
              refine Calls.mono (awake4 _) ?_
              rintro e w' ⟨rfl, hb⟩
              try go_wp2_with fail
              refine hK.out _ _ ?hs206 (fun hS4 => ?_)
              case hs206 => exact bel_next hS3 hb
              clear hK K hb
              try simp only [Act.put, List.setIfInBounds_toArray, List.set_cons_zero, List.set_cons_succ]
              refine takeInH 18 102 ?v207 rfl rfl (by kernel_rfl) (by kernel_rfl) (by kernel_rfl) (fun _ _ _ h => h) (by kernel_rfl) hS4 ?hy207 ?_
              case hy207 => (intro W hW; clear hW; go_simp; try rfl)
              simp only [Act.put, List.setIfInBounds_toArray, List.set_cons_zero, List.set_cons_succ]
              refine takeInH 19 6 ?v208 rfl rfl (by kernel_rfl) (by kernel_rfl) (by kernel_rfl) (fun _ _ _ h => h) (by kernel_rfl) hS4 ?hy208 ?_
              case hy208 => (intro W hW; clear hW; go_simp; try rfl)
              simp only [Act.put, List.setIfInBounds_toArray, List.set_cons_zero, List.set_cons_succ]
              refine wpAnyH_done (by kernel_rfl) ?_ _
              go_wp2
              go_ret
              exact ⟨rfl, bel_next HU.out hS4⟩

/-! ### The row's step -/
set_option maxRecDepth 100000 in
theorem lifted (os : Os) (started : os.Started) (H : Type) (enc : TypeId × Value → H) :
    ReturnsInHanded {} Try.checked os 5 .any (Rows.dotsOneSpec.pre6 enc Try.prog Try.f5 Rows.dotsOneRow.domain false) (Rows.dotsOneSpec.post enc Try.prog Try.f5 false true false false) := by
  refine returnsInHanded_of_change_sized (C := Try.checked) own started (by kernel_rfl) Try.func5
    (ChangeSpec.witness6 (enc := enc) (C := Try.checked) false ⟨#[], #[.slice none 0 0, .slice none 0 0, .agg #[.int .i64 0, .int .i64 0]], []⟩ 8 (by kernel_rfl) (by kernel_rfl) (by kernel_rfl) (by kernel_rfl)) ?_
  intro W base args ds gs before hval0 hW hcnd hz0 _
  have hval : ∀ (j : Nat) t v, Try.f5.params[j]? = some t → args[j]? = some v → Value.okWide Try.prog W .any base t v := hval0
  have hz : (DataW.weightsEach Try.prog (Try.f5.params.toList ++ Rows.dotsOneSpec.plain.varTypes Try.prog) (ds ++ gs)).all (· ≤ reachBytes) = true := hz0
  have hW' := hW
  obtain ⟨p, q, hA0, hV, rfl, hfz, hnd⟩ := hW
  have hA : DataW.TrodAll enc Try.prog W 0 (fun _ => true) true Try.f5.params.toList args.toList ds p := hA0
  rw [Try.params5] at hA hval hz
  obtain ⟨v0, vs0, d0, ds0, p0, q0, hargs, rfl, rfl, h0, r0⟩ := trodAll_cons hA
  obtain ⟨v1, vs1, d1, ds1, p1, q1, rfl, rfl, rfl, h1, r1⟩ := trodAll_cons r0
  obtain ⟨v2, vs2, d2, ds2, p2, q2, rfl, rfl, rfl, h2, r2⟩ := trodAll_cons r1
  obtain ⟨rfl, rfl, rfl⟩ := trodAll_nil r2
  obtain rfl : args = #[v0, v1, v2] := by cases args; simp_all
  obtain ⟨rfl, rfl⟩ := trodVars_none hV
  have k0 := h0
  have lt0 : ∀ x ∈ p0, x.block < W.heap.size := by obtain ⟨m, hm⟩ := k0; exact DataW.trod_lt m _ _ _ hm
  have w0 : InDs W v0 := in_dots (hval 0 24 v0 rfl rfl) h0 (fun n hn => by have := List.all_eq_true.1 hz n (DataW.weights_mem_each (j := 0) (t := 24) rfl rfl n hn); simpa using this)
  have k1 := h1
  have lt1 : ∀ x ∈ p1, x.block < W.heap.size := by obtain ⟨m, hm⟩ := k1; exact DataW.trod_lt m _ _ _ hm
  have w1 : InU W v1 := in_u8s (hval 1 45 v1 rfl rfl) h1 (fun n hn => by have := List.all_eq_true.1 hz n (DataW.weights_mem_each (j := 1) (t := 45) rfl rfl n hn); simpa using this)
  have k2 := h2
  have lt2 : ∀ x ∈ p2, x.block < W.heap.size := by obtain ⟨m, hm⟩ := k2; exact DataW.trod_lt m _ _ _ hm
  have w2 : InD W v2 := in_dot (hval 2 28 v2 rfl rfl) h2 (fun n hn => by have := List.all_eq_true.1 hz n (DataW.weights_mem_each (j := 2) (t := 28) rfl rfl n hn); simpa using this)
  clear hA0 hval0 hz0
  refine (walk v0 v1 v2 W w0 w1 w2).mono fun e W' ⟨he, bel⟩ => ?_
  subst he
  exact ⟨_, rfl, _, _, _, [], _, [], hW', trodAll_mk1 (shut_bool Try.underlying4 _), (trodAll_cons_mk (Below.trod laidOut (by kernel_rfl) (of_decide_eq_true (by kernel_rfl)) k0 bel lt0) (trodAll_cons_mk (Below.trod laidOut (by kernel_rfl) (of_decide_eq_true (by kernel_rfl)) k1 bel lt1) (trodAll_cons_mk (Below.trod laidOut (by kernel_rfl) (of_decide_eq_true (by kernel_rfl)) k2 bel lt2) trodAll_mk0))), rfl, bel.frame _, fun h => by cases h⟩

theorem over : Rows.dotsOneRow.holds Try.pinned (OpenSpec.ofChange Rows.dotsOneSpec) :=
  OpenClaim.holds_of_wide 5 Try.f5 rfl rfl rfl rfl rfl rfl rfl ⟨rfl, rfl, rfl, rfl, rfl⟩ rfl rfl rfl rfl rfl (by kernel_rfl) Try.func5 (by kernel_rfl)
    (of_decide_eq_true (by kernel_rfl)) (by unfold Func.isWrapper; first | (rw [if_pos (by decide +kernel)]; kernel_rfl) | (rw [if_neg (by decide +kernel)]; exact ⟨rfl, rfl⟩))
    (fun os started H enc _ => lifted os started H enc)
end Go.Proofs.Ytccpbkemiilgcaa.dotsOne
namespace Go.Proofs.Ytccpbkemiilgcaa
theorem dotsOne_holds : Rows.DotsOneSaid := dotsOne.over
end Go.Proofs.Ytccpbkemiilgcaa
