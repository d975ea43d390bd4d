/- Accounts but that all have of a key what is told (layer 11). -/
import Derived.Test.YtbihgcmnllajpaaGEc
import Derived.Test.YtbihgcmnllajpaaGEb
namespace Go.Proofs.Ytbihgcmnllajpaa
open Go.RowKit Go.Lib
set_option linter.unusedVariables false
theorem rsA_head {w : World} {a : Option Addr} {n : Nat} {s : List Ac} (h : RS encA 6 w a n s) (i : Nat) (hi : i ≤ n) : RS encA 6 w a i (s.take i) := by
  obtain ⟨h1, h2, h4⟩ := h
  refine ⟨by rw [List.length_take]; omega, by omega, ?_⟩
  rcases h4 with h0 | ⟨b, off, ha, hc⟩
  · exact .inl (by omega)
  · refine .inr ⟨b, off, ha, fun j x hj => ?_⟩
    rw [List.getElem?_take] at hj
    split at hj
    · exact hc j x hj
    · cases hj
theorem rsA_rest {w : World} {b off n cap : Nat} {s : List Ac} (h : RS encA 6 w (some ⟨b, off, none⟩) n s) (i : Nat) (hi : i ≤ n) (hc : n ≤ cap) : RS encA 6 w (if cap = i then some ⟨b, off, none⟩ else some ⟨b, off + i * 6, none⟩) (n - i) (s.drop i) := by
  rcases Nat.lt_or_ge i n with hlt | hge
  · rw [if_neg (by omega)]
    exact RS.mid (k := 6) h i hi
  · have e : n - i = 0 := by omega
    rw [e, List.drop_eq_nil_of_le (by rw [h.1]; exact hge)]
    exact RS.nil _ _
set_option maxHeartbeats 4000000 in
theorem with_some (b off n cap : Nat) (s : List Ac) (t : ByteArray) (g0 g1 g2 g3 g4 : Int) (w : World) (hA : AC w (some ⟨b, off, none⟩) n s) (hC : n ≤ cap) (hcm : cap ≤ maxLen) (hS : SrtG kA s) (hn : n ≤ 4000) :
    Calls Try.prog 28 #[.slice (some ⟨b, off, none⟩) n cap, .string t, .agg #[.int .i64 g0, .int .i64 g1, .int .i64 g2, .int .i64 g3, .int .i64 g4]] w fun e w' => ∃ v, e = .returned v ∧ OwnR encA 6 52 w.heap.size w' v (setA s t [g0, g1, g2, g3, g4]) ∧ Below w.heap.size w w' := by
  have HLEN := hide hA.1.1
  have HS0 := hide hS
  have HPL := hide (fun W (g : AC W (some ⟨b, off, none⟩) n s) => placeA_any (some ⟨b, off, none⟩) n cap s t W g hS hn)
  have HB0 := hide (bel1 w (.cells #[.int .i64 g0, .int .i64 g1, .int .i64 g2, .int .i64 g3, .int .i64 g4] 50))
  have HV := hide (hA.below HB0.out)
  unfold maxLen at hcm
  clear hA hS
  have q0 := (BX.new w _ rfl #[.int .i64 g0, .int .i64 g1, .int .i64 g2, .int .i64 g3, .int .i64 g4] 50).cell 0 _ rfl
  have q1 := (BX.new w _ rfl #[.int .i64 g0, .int .i64 g1, .int .i64 g2, .int .i64 g3, .int .i64 g4] 50).cell 1 _ rfl
  have q2 := (BX.new w _ rfl #[.int .i64 g0, .int .i64 g1, .int .i64 g2, .int .i64 g3, .int .i64 g4] 50).cell 2 _ rfl
  have q3 := (BX.new w _ rfl #[.int .i64 g0, .int .i64 g1, .int .i64 g2, .int .i64 g3, .int .i64 g4] 50).cell 3 _ rfl
  have q4 := (BX.new w _ rfl #[.int .i64 g0, .int .i64 g1, .int .i64 g2, .int .i64 g3, .int .i64 g4] 50).cell 4 _ rfl
  go_enter Try.func28, Try.ntmps28
  go_upto_region 2 with (go_at_call 33; refine (HPL.out _ HV.out).mono ?_; rintro e w1 ⟨⟨i, rfl, hp⟩, hb⟩)
  have HP := hide hp
  have HB := hide (bel_next HB0.out hb)
  replace HV := hide (HV.out.below hb)
  replace q0 := bcell hb q0
  replace q1 := bcell hb q1
  replace q2 := bcell hb q2
  replace q3 := bcell hb q3
  replace q4 := bcell hb q4
  have hin : i ≤ n := by have := hp.1; rw [HLEN.out] at this; exact this
  have hi0 : (0 : Int) ≤ (i : Int) := by omega
  have hin2 : (i : Int) ≤ (n : Int) := by omega
  have hin3 : (i : Int) ≤ (cap : Int) := by omega
  clear hp hb HPL HB0
  rcases ht : thereG kA s t i with _ | _
  · have HADD : Hid (setA s t [g0, g1, g2, g3, g4] = s.take i ++ (accA t [g0, g1, g2, g3, g4]).toList ++ s.drop i) := (placeG_not HS0.out HP.out (thereG_no ht) (accA t [g0, g1, g2, g3, g4])).2
    clear HS0 HP ht
    obtain ⟨R, hR⟩ : ∃ R : Option Addr, (if cap = i then (some ⟨b, off, none⟩ : Option Addr) else some ⟨b, off + i * 6, none⟩) = R := ⟨_, rfl⟩
    have HRT : Hid (RS encA 6 w1 R (n - i) (s.drop i)) := by unfold Hid; rw [← hR]; exact rsA_rest HV.out.1 i (by omega) (by omega)
    have HRN : Hid (R = none → cap - i = 0) := by intro h; rw [← hR] at h; split at h <;> cases h
    rcases hz : [g0, g1, g2, g3, g4].any nz with _ | _
    · have HRES : Hid (setA s t [g0, g1, g2, g3, g4] = s.take i ++ [] ++ s.drop i) := by unfold Hid; rw [HADD.out, accA, if_neg (by rw [hz]; simp)]; rfl
      have HNZ := hide hz
      clear hz HADD
      go_upto_region 8 with (go_at_call 34; refine (nought11_any g0 g1 g2 g3 g4 _).mono ?_; rintro e w2 ⟨rfl, hb2⟩; rw [HNZ.out]; replace q0 := bcell hb2 q0; replace q1 := bcell hb2 q1; replace q2 := bcell hb2 q2; replace q3 := bcell hb2 q3; replace q4 := bcell hb2 q4; have HB2 := hide hb2; clear hb2)
      replace HV := hide (HV.out.below HB2.out)
      replace HRT := hide (HRT.out.below HB2.out)
      replace HB := hide (bel_next HB.out HB2.out)
      have HTT : Hid (RS encA 6 w2 none 0 []) := RS.nil _ _
      clear HB2 q0 q1 q2 q3 q4
      generalize hww : w2 = u at *
      clear hww
      refine wp_region_held_drew (S := fun W => Below u.heap.size u W) (by kernel_rfl) ((Below.refl _ u).drew) (fun hS0 => ?_)
      refine takeInH 0 28 ?v1 rfl rfl (by kernel_rfl) (by kernel_rfl) (by kernel_rfl) (fun _ _ _ h => h) (by kernel_rfl) hS0 ?hy1 ?_
      case hy1 => (intro W hW; clear hW; go_simp; try rfl)
      simp only [Act.put, List.setIfInBounds_toArray, List.set_cons_zero, List.set_cons_succ]
      refine takeInH 1 29 ?v2 rfl rfl (by kernel_rfl) (by kernel_rfl) (by kernel_rfl) (fun _ _ _ h => h) (by kernel_rfl) hS0 ?hy2 ?_
      case hy2 => (intro W hW; clear hW; go_simp; try rfl)
      simp only [Act.put, List.setIfInBounds_toArray, List.set_cons_zero, List.set_cons_succ]
      refine takeInH 2 30 ?v3 rfl rfl (by kernel_rfl) (by kernel_rfl) (by kernel_rfl) (fun _ _ _ h => h) (by kernel_rfl) hS0 ?hy3 ?_
      case hy3 => (intro W hW; clear hW; go_simp; try rfl)
      simp only [Act.put, List.setIfInBounds_toArray, List.set_cons_zero, List.set_cons_succ]
      refine takeInH 3 31 ?v4 rfl rfl (by kernel_rfl) (by kernel_rfl) (by kernel_rfl) (fun _ _ _ h => h) (by kernel_rfl) hS0 ?hy4 ?_
      case hy4 => (intro W hW; clear hW; go_simp; try rfl)
      simp only [Act.put, List.setIfInBounds_toArray, List.set_cons_zero, List.set_cons_succ]
      refine takeInH 4 32 ?v5 rfl rfl (by kernel_rfl) (by kernel_rfl) (by kernel_rfl) (fun _ _ _ h => h) (by kernel_rfl) hS0 ?hy5 ?_
      case hy5 => (intro W hW; clear hW; go_simp; try rfl)
      simp only [Act.put, List.setIfInBounds_toArray, List.set_cons_zero, List.set_cons_succ]
      refine takeInH 5 33 ?v6 rfl rfl (by kernel_rfl) (by kernel_rfl) (by kernel_rfl) (fun _ _ _ h => h) (by kernel_rfl) hS0 ?hy6 ?_
      case hy6 => (intro W hW; clear hW; go_simp; try rfl)
      simp only [Act.put, List.setIfInBounds_toArray, List.set_cons_zero, List.set_cons_succ]
      refine takeInH 6 34 ?v7 rfl rfl (by kernel_rfl) (by kernel_rfl) (by kernel_rfl) (fun _ _ _ h => h) (by kernel_rfl) hS0 ?hy7 ?_
      case hy7 => (intro W hW; clear hW; go_simp; try rfl)
      simp only [Act.put, List.setIfInBounds_toArray, List.set_cons_zero, List.set_cons_succ]
      refine wpAnyH_ready (rs := [7]) (by kernel_rfl) (by simp) ?_
      refine AllReadyH.cons rfl (fun K hK => ?_) AllReadyH.nil
      go_simp
      have BW : Below u.heap.size u (u.alloc (.cells #[.slice (some ⟨b, off, none⟩) i cap, .slice none 0 0, .slice R (n - i) (cap - i)] 22)).drew := (bel1 u (.cells #[.slice (some ⟨b, off, none⟩) i cap, .slice none 0 0, .slice R (n - i) (cap - i)] 22)).drew
      have x0 : (u.alloc (.cells #[.slice (some ⟨b, off, none⟩) i cap, .slice none 0 0, .slice R (n - i) (cap - i)] 22)).drew.cell? ⟨u.heap.size, 0, none⟩ = some (.slice (some ⟨b, off, none⟩) i cap) := cell_new u #[.slice (some ⟨b, off, none⟩) i cap, .slice none 0 0, .slice R (n - i) (cap - i)] 22 _ rfl 0 _ rfl
      have x1 : (u.alloc (.cells #[.slice (some ⟨b, off, none⟩) i cap, .slice none 0 0, .slice R (n - i) (cap - i)] 22)).drew.cell? ⟨u.heap.size, 1, none⟩ = some (.slice none 0 0) := cell_new u #[.slice (some ⟨b, off, none⟩) i cap, .slice none 0 0, .slice R (n - i) (cap - i)] 22 _ rfl 1 _ rfl
      have x2 : (u.alloc (.cells #[.slice (some ⟨b, off, none⟩) i cap, .slice none 0 0, .slice R (n - i) (cap - i)] 22)).drew.cell? ⟨u.heap.size, 2, none⟩ = some (.slice R (n - i) (cap - i)) := cell_new u #[.slice (some ⟨b, off, none⟩) i cap, .slice none 0 0, .slice R (n - i) (cap - i)] 22 _ rfl 2 _ rfl
      generalize (u.alloc (.cells #[.slice (some ⟨b, off, none⟩) i cap, .slice none 0 0, .slice R (n - i) (cap - i)] 22)).drew = wb at BW x0 x1 x2 ⊢
      refine hK.out _ _ ?hs8 (fun hS1 => ?_)
      case hs8 => exact BW
      clear hK K
      try simp only [Act.put, List.setIfInBounds_toArray, List.set_cons_zero, List.set_cons_succ]
      refine wpAnyH_ready (rs := [8]) (by kernel_rfl) (by simp) ?_
      refine AllReadyH.cons rfl (fun K hK => ?_) AllReadyH.nil
      go_simp
      refine (concatA_any u.heap.size (some ⟨b, off, none⟩) none R i cap 0 0 (n - i) (cap - i) (s.take i) [] (s.drop i) _ x0 x1 x2 (rsA_head (HV.out.1.below hS1) i (by omega)) (HTT.out.below hS1) (HRT.out.below hS1) (fun h => by cases h) (fun _ => rfl) HRN.out (by omega)).mono ?_
      rintro e9 wn ⟨v9, rfl, ho9, hb⟩
      have HO9 := hide ho9
      clear ho9
      refine hK.out _ _ ?hs9 (fun hS2 => ?_)
      case hs9 => exact bel_next hS1 hb
      clear hK K hb
      try simp only [Act.put, List.setIfInBounds_toArray, List.set_cons_zero, List.set_cons_succ]
      refine takeInH 9 6 ?v10 rfl rfl (by kernel_rfl) (by kernel_rfl) (by kernel_rfl) (fun _ _ _ h => h) (by kernel_rfl) hS2 ?hy10 ?_
      case hy10 => (intro W hW; clear hW; go_simp; try rfl)
      simp only [Act.put, List.setIfInBounds_toArray, List.set_cons_zero, List.set_cons_succ]
      refine wpAnyH_done (by kernel_rfl) ?_ _
      go_wp2
      go_ret
      refine ⟨_, rfl, ?_, bel_next HB.out hS2⟩
      rw [HRES.out]
      exact OwnR.mono HO9.out (Nat.le_trans HB.out.size BW.size)
    · have HRES : Hid (setA s t [g0, g1, g2, g3, g4] = s.take i ++ [(t, [g0, g1, g2, g3, g4])] ++ s.drop i) := by unfold Hid; rw [HADD.out, accA, if_pos hz]; rfl
      have HNZ := hide hz
      clear hz HADD
      go_upto_region 8 with (go_at_call 34; refine (nought11_any g0 g1 g2 g3 g4 _).mono ?_; rintro e w2 ⟨rfl, hb2⟩; rw [HNZ.out]; replace q0 := bcell hb2 q0; replace q1 := bcell hb2 q1; replace q2 := bcell hb2 q2; replace q3 := bcell hb2 q3; replace q4 := bcell hb2 q4; have HB2 := hide hb2; clear hb2)
      replace HV := hide (HV.out.below HB2.out)
      replace HRT := hide (HRT.out.below HB2.out)
      replace HB := hide (bel_next HB.out HB2.out)
      have BN := hide (bel1 w2 (.cells #[.string t, .int .i64 g0, .int .i64 g1, .int .i64 g2, .int .i64 g3, .int .i64 g4] 52))
      have HTT : Hid (RS encA 6 (w2.alloc (.cells #[.string t, .int .i64 g0, .int .i64 g1, .int .i64 g2, .int .i64 g3, .int .i64 g4] 52)) (some ⟨w2.heap.size, 0, none⟩) 1 [(t, [g0, g1, g2, g3, g4])]) := RS.new encA_len w2 _ rfl [(t, [g0, g1, g2, g3, g4])] _ (by simp [encA, atH]) _ _ 1 rfl (by decide)
      replace HV := hide (HV.out.below BN.out)
      replace HRT := hide (HRT.out.below BN.out)
      replace HB := hide (bel_next HB.out BN.out)
      clear BN HB2 q0 q1 q2 q3 q4
      generalize w2.heap.size = GB at *
      generalize hww : w2.alloc (.cells #[.string t, .int .i64 g0, .int .i64 g1, .int .i64 g2, .int .i64 g3, .int .i64 g4] 52) = u at *
      clear hww
      refine wp_region_held_drew (S := fun W => Below u.heap.size u W) (by kernel_rfl) ((Below.refl _ u).drew) (fun hS0 => ?_)
      refine takeInH 0 28 ?v11 rfl rfl (by kernel_rfl) (by kernel_rfl) (by kernel_rfl) (fun _ _ _ h => h) (by kernel_rfl) hS0 ?hy11 ?_
      case hy11 => (intro W hW; clear hW; go_simp; try rfl)
      simp only [Act.put, List.setIfInBounds_toArray, List.set_cons_zero, List.set_cons_succ]
      refine takeInH 1 29 ?v12 rfl rfl (by kernel_rfl) (by kernel_rfl) (by kernel_rfl) (fun _ _ _ h => h) (by kernel_rfl) hS0 ?hy12 ?_
      case hy12 => (intro W hW; clear hW; go_simp; try rfl)
      simp only [Act.put, List.setIfInBounds_toArray, List.set_cons_zero, List.set_cons_succ]
      refine takeInH 2 30 ?v13 rfl rfl (by kernel_rfl) (by kernel_rfl) (by kernel_rfl) (fun _ _ _ h => h) (by kernel_rfl) hS0 ?hy13 ?_
      case hy13 => (intro W hW; clear hW; go_simp; try rfl)
      simp only [Act.put, List.setIfInBounds_toArray, List.set_cons_zero, List.set_cons_succ]
      refine takeInH 3 31 ?v14 rfl rfl (by kernel_rfl) (by kernel_rfl) (by kernel_rfl) (fun _ _ _ h => h) (by kernel_rfl) hS0 ?hy14 ?_
      case hy14 => (intro W hW; clear hW; go_simp; try rfl)
      simp only [Act.put, List.setIfInBounds_toArray, List.set_cons_zero, List.set_cons_succ]
      refine takeInH 4 32 ?v15 rfl rfl (by kernel_rfl) (by kernel_rfl) (by kernel_rfl) (fun _ _ _ h => h) (by kernel_rfl) hS0 ?hy15 ?_
      case hy15 => (intro W hW; clear hW; go_simp; try rfl)
      simp only [Act.put, List.setIfInBounds_toArray, List.set_cons_zero, List.set_cons_succ]
      refine takeInH 5 33 ?v16 rfl rfl (by kernel_rfl) (by kernel_rfl) (by kernel_rfl) (fun _ _ _ h => h) (by kernel_rfl) hS0 ?hy16 ?_
      case hy16 => (intro W hW; clear hW; go_simp; try rfl)
      simp only [Act.put, List.setIfInBounds_toArray, List.set_cons_zero, List.set_cons_succ]
      refine takeInH 6 34 ?v17 rfl rfl (by kernel_rfl) (by kernel_rfl) (by kernel_rfl) (fun _ _ _ h => h) (by kernel_rfl) hS0 ?hy17 ?_
      case hy17 => (intro W hW; clear hW; go_simp; try rfl)
      simp only [Act.put, List.setIfInBounds_toArray, List.set_cons_zero, List.set_cons_succ]
      refine wpAnyH_ready (rs := [7]) (by kernel_rfl) (by simp) ?_
      refine AllReadyH.cons rfl (fun K hK => ?_) AllReadyH.nil
      go_simp
      have BW : Below u.heap.size u (u.alloc (.cells #[.slice (some ⟨b, off, none⟩) i cap, .slice (some ⟨GB, 0, none⟩) 1 1, .slice R (n - i) (cap - i)] 22)).drew := (bel1 u (.cells #[.slice (some ⟨b, off, none⟩) i cap, .slice (some ⟨GB, 0, none⟩) 1 1, .slice R (n - i) (cap - i)] 22)).drew
      have x0 : (u.alloc (.cells #[.slice (some ⟨b, off, none⟩) i cap, .slice (some ⟨GB, 0, none⟩) 1 1, .slice R (n - i) (cap - i)] 22)).drew.cell? ⟨u.heap.size, 0, none⟩ = some (.slice (some ⟨b, off, none⟩) i cap) := cell_new u #[.slice (some ⟨b, off, none⟩) i cap, .slice (some ⟨GB, 0, none⟩) 1 1, .slice R (n - i) (cap - i)] 22 _ rfl 0 _ rfl
      have x1 : (u.alloc (.cells #[.slice (some ⟨b, off, none⟩) i cap, .slice (some ⟨GB, 0, none⟩) 1 1, .slice R (n - i) (cap - i)] 22)).drew.cell? ⟨u.heap.size, 1, none⟩ = some (.slice (some ⟨GB, 0, none⟩) 1 1) := cell_new u #[.slice (some ⟨b, off, none⟩) i cap, .slice (some ⟨GB, 0, none⟩) 1 1, .slice R (n - i) (cap - i)] 22 _ rfl 1 _ rfl
      have x2 : (u.alloc (.cells #[.slice (some ⟨b, off, none⟩) i cap, .slice (some ⟨GB, 0, none⟩) 1 1, .slice R (n - i) (cap - i)] 22)).drew.cell? ⟨u.heap.size, 2, none⟩ = some (.slice R (n - i) (cap - i)) := cell_new u #[.slice (some ⟨b, off, none⟩) i cap, .slice (some ⟨GB, 0, none⟩) 1 1, .slice R (n - i) (cap - i)] 22 _ rfl 2 _ rfl
      generalize (u.alloc (.cells #[.slice (some ⟨b, off, none⟩) i cap, .slice (some ⟨GB, 0, none⟩) 1 1, .slice R (n - i) (cap - i)] 22)).drew = wb at BW x0 x1 x2 ⊢
      refine hK.out _ _ ?hs18 (fun hS1 => ?_)
      case hs18 => exact BW
      clear hK K
      try simp only [Act.put, List.setIfInBounds_toArray, List.set_cons_zero, List.set_cons_succ]
      refine wpAnyH_ready (rs := [8]) (by kernel_rfl) (by simp) ?_
      refine AllReadyH.cons rfl (fun K hK => ?_) AllReadyH.nil
      go_simp
      refine (concatA_any u.heap.size (some ⟨b, off, none⟩) (some ⟨GB, 0, none⟩) R i cap 1 1 (n - i) (cap - i) (s.take i) [(t, [g0, g1, g2, g3, g4])] (s.drop i) _ x0 x1 x2 (rsA_head (HV.out.1.below hS1) i (by omega)) (HTT.out.below hS1) (HRT.out.below hS1) (fun h => by cases h) (fun h => by cases h) HRN.out (by omega)).mono ?_
      rintro e9 wn ⟨v9, rfl, ho9, hb⟩
      have HO9 := hide ho9
      clear ho9
      refine hK.out _ _ ?hs19 (fun hS2 => ?_)
      case hs19 => exact bel_next hS1 hb
      clear hK K hb
      try simp only [Act.put, List.setIfInBounds_toArray, List.set_cons_zero, List.set_cons_succ]
      refine takeInH 9 6 ?v20 rfl rfl (by kernel_rfl) (by kernel_rfl) (by kernel_rfl) (fun _ _ _ h => h) (by kernel_rfl) hS2 ?hy20 ?_
      case hy20 => (intro W hW; clear hW; go_simp; try rfl)
      simp only [Act.put, List.setIfInBounds_toArray, List.set_cons_zero, List.set_cons_succ]
      refine wpAnyH_done (by kernel_rfl) ?_ _
      go_wp2
      go_ret
      refine ⟨_, rfl, ?_, bel_next HB.out hS2⟩
      rw [HRES.out]
      exact OwnR.mono HO9.out (Nat.le_trans HB.out.size BW.size)
  · obtain ⟨x, hx, he⟩ := thereG_yes ht
    have HADD : Hid (setA s t [g0, g1, g2, g3, g4] = s.take i ++ (accA t [g0, g1, g2, g3, g4]).toList ++ s.drop (i + 1)) := (placeG_there HS0.out HP.out hx he (accA t [g0, g1, g2, g3, g4])).2
    have hlt : i < n := by rw [← HLEN.out]; exact (List.getElem?_eq_some_iff.1 hx).1
    clear HS0 HP ht he hx
    have hwi : IntKind.i64.wrap ((i : Int) + 1) = (i : Int) + 1 := by rw [IntKind.wrap_i64]; omega
    have hi1 : (i : Int) < (n : Int) := by omega
    have hi2 : (i : Int) + 1 ≤ (n : Int) := by omega
    have hi3 : (0 : Int) ≤ (i : Int) + 1 := by omega
    have hi4 : ((i : Int) + 1).toNat = i + 1 := by omega
    have hi5 : (i : Int) + 1 ≤ (cap : Int) := by omega
    obtain ⟨R, hR⟩ : ∃ R : Option Addr, (if cap = (i + 1) then (some ⟨b, off, none⟩ : Option Addr) else some ⟨b, off + (i + 1) * 6, none⟩) = R := ⟨_, rfl⟩
    have HRT : Hid (RS encA 6 w1 R (n - (i + 1)) (s.drop (i + 1))) := by unfold Hid; rw [← hR]; exact rsA_rest HV.out.1 (i + 1) (by omega) (by omega)
    have HRN : Hid (R = none → cap - (i + 1) = 0) := by intro h; rw [← hR] at h; split at h <;> cases h
    rcases hz : [g0, g1, g2, g3, g4].any nz with _ | _
    · have HRES : Hid (setA s t [g0, g1, g2, g3, g4] = s.take i ++ [] ++ s.drop (i + 1)) := by unfold Hid; rw [HADD.out, accA, if_neg (by rw [hz]; simp)]; rfl
      have HNZ := hide hz
      clear hz HADD
      go_upto_region 8 with (go_at_call 34; refine (nought11_any g0 g1 g2 g3 g4 _).mono ?_; rintro e w2 ⟨rfl, hb2⟩; rw [HNZ.out]; replace q0 := bcell hb2 q0; replace q1 := bcell hb2 q1; replace q2 := bcell hb2 q2; replace q3 := bcell hb2 q3; replace q4 := bcell hb2 q4; have HB2 := hide hb2; clear hb2)
      replace HV := hide (HV.out.below HB2.out)
      replace HRT := hide (HRT.out.below HB2.out)
      replace HB := hide (bel_next HB.out HB2.out)
      have HTT : Hid (RS encA 6 w2 none 0 []) := RS.nil _ _
      clear HB2 q0 q1 q2 q3 q4
      generalize hww : w2 = u at *
      clear hww
      refine wp_region_held_drew (S := fun W => Below u.heap.size u W) (by kernel_rfl) ((Below.refl _ u).drew) (fun hS0 => ?_)
      refine takeInH 0 28 ?v21 rfl rfl (by kernel_rfl) (by kernel_rfl) (by kernel_rfl) (fun _ _ _ h => h) (by kernel_rfl) hS0 ?hy21 ?_
      case hy21 => (intro W hW; clear hW; go_simp; try rfl)
      simp only [Act.put, List.setIfInBounds_toArray, List.set_cons_zero, List.set_cons_succ]
      refine takeInH 1 29 ?v22 rfl rfl (by kernel_rfl) (by kernel_rfl) (by kernel_rfl) (fun _ _ _ h => h) (by kernel_rfl) hS0 ?hy22 ?_
      case hy22 => (intro W hW; clear hW; go_simp; try rfl)
      simp only [Act.put, List.setIfInBounds_toArray, List.set_cons_zero, List.set_cons_succ]
      refine takeInH 2 30 ?v23 rfl rfl (by kernel_rfl) (by kernel_rfl) (by kernel_rfl) (fun _ _ _ h => h) (by kernel_rfl) hS0 ?hy23 ?_
      case hy23 => (intro W hW; clear hW; go_simp; try rfl)
      simp only [Act.put, List.setIfInBounds_toArray, List.set_cons_zero, List.set_cons_succ]
      refine takeInH 3 31 ?v24 rfl rfl (by kernel_rfl) (by kernel_rfl) (by kernel_rfl) (fun _ _ _ h => h) (by kernel_rfl) hS0 ?hy24 ?_
      case hy24 => (intro W hW; clear hW; go_simp; try rfl)
      simp only [Act.put, List.setIfInBounds_toArray, List.set_cons_zero, List.set_cons_succ]
      refine takeInH 4 32 ?v25 rfl rfl (by kernel_rfl) (by kernel_rfl) (by kernel_rfl) (fun _ _ _ h => h) (by kernel_rfl) hS0 ?hy25 ?_
      case hy25 => (intro W hW; clear hW; go_simp; try rfl)
      simp only [Act.put, List.setIfInBounds_toArray, List.set_cons_zero, List.set_cons_succ]
      refine takeInH 5 33 ?v26 rfl rfl (by kernel_rfl) (by kernel_rfl) (by kernel_rfl) (fun _ _ _ h => h) (by kernel_rfl) hS0 ?hy26 ?_
      case hy26 => (intro W hW; clear hW; go_simp; try rfl)
      simp only [Act.put, List.setIfInBounds_toArray, List.set_cons_zero, List.set_cons_succ]
      refine takeInH 6 34 ?v27 rfl rfl (by kernel_rfl) (by kernel_rfl) (by kernel_rfl) (fun _ _ _ h => h) (by kernel_rfl) hS0 ?hy27 ?_
      case hy27 => (intro W hW; clear hW; go_simp; try rfl)
      simp only [Act.put, List.setIfInBounds_toArray, List.set_cons_zero, List.set_cons_succ]
      refine wpAnyH_ready (rs := [7]) (by kernel_rfl) (by simp) ?_
      refine AllReadyH.cons rfl (fun K hK => ?_) AllReadyH.nil
      go_simp
      have BW : Below u.heap.size u (u.alloc (.cells #[.slice (some ⟨b, off, none⟩) i cap, .slice none 0 0, .slice R (n - (i + 1)) (cap - (i + 1))] 22)).drew := (bel1 u (.cells #[.slice (some ⟨b, off, none⟩) i cap, .slice none 0 0, .slice R (n - (i + 1)) (cap - (i + 1))] 22)).drew
      have x0 : (u.alloc (.cells #[.slice (some ⟨b, off, none⟩) i cap, .slice none 0 0, .slice R (n - (i + 1)) (cap - (i + 1))] 22)).drew.cell? ⟨u.heap.size, 0, none⟩ = some (.slice (some ⟨b, off, none⟩) i cap) := cell_new u #[.slice (some ⟨b, off, none⟩) i cap, .slice none 0 0, .slice R (n - (i + 1)) (cap - (i + 1))] 22 _ rfl 0 _ rfl
      have x1 : (u.alloc (.cells #[.slice (some ⟨b, off, none⟩) i cap, .slice none 0 0, .slice R (n - (i + 1)) (cap - (i + 1))] 22)).drew.cell? ⟨u.heap.size, 1, none⟩ = some (.slice none 0 0) := cell_new u #[.slice (some ⟨b, off, none⟩) i cap, .slice none 0 0, .slice R (n - (i + 1)) (cap - (i + 1))] 22 _ rfl 1 _ rfl
      have x2 : (u.alloc (.cells #[.slice (some ⟨b, off, none⟩) i cap, .slice none 0 0, .slice R (n - (i + 1)) (cap - (i + 1))] 22)).drew.cell? ⟨u.heap.size, 2, none⟩ = some (.slice R (n - (i + 1)) (cap - (i + 1))) := cell_new u #[.slice (some ⟨b, off, none⟩) i cap, .slice none 0 0, .slice R (n - (i + 1)) (cap - (i + 1))] 22 _ rfl 2 _ rfl
      generalize (u.alloc (.cells #[.slice (some ⟨b, off, none⟩) i cap, .slice none 0 0, .slice R (n - (i + 1)) (cap - (i + 1))] 22)).drew = wb at BW x0 x1 x2 ⊢
      refine hK.out _ _ ?hs28 (fun hS1 => ?_)
      case hs28 => exact BW
      clear hK K
      try simp only [Act.put, List.setIfInBounds_toArray, List.set_cons_zero, List.set_cons_succ]
      refine wpAnyH_ready (rs := [8]) (by kernel_rfl) (by simp) ?_
      refine AllReadyH.cons rfl (fun K hK => ?_) AllReadyH.nil
      go_simp
      refine (concatA_any u.heap.size (some ⟨b, off, none⟩) none R i cap 0 0 (n - (i + 1)) (cap - (i + 1)) (s.take i) [] (s.drop (i + 1)) _ x0 x1 x2 (rsA_head (HV.out.1.below hS1) i (by omega)) (HTT.out.below hS1) (HRT.out.below hS1) (fun h => by cases h) (fun _ => rfl) HRN.out (by omega)).mono ?_
      rintro e9 wn ⟨v9, rfl, ho9, hb⟩
      have HO9 := hide ho9
      clear ho9
      refine hK.out _ _ ?hs29 (fun hS2 => ?_)
      case hs29 => exact bel_next hS1 hb
      clear hK K hb
      try simp only [Act.put, List.setIfInBounds_toArray, List.set_cons_zero, List.set_cons_succ]
      refine takeInH 9 6 ?v30 rfl rfl (by kernel_rfl) (by kernel_rfl) (by kernel_rfl) (fun _ _ _ h => h) (by kernel_rfl) hS2 ?hy30 ?_
      case hy30 => (intro W hW; clear hW; go_simp; try rfl)
      simp only [Act.put, List.setIfInBounds_toArray, List.set_cons_zero, List.set_cons_succ]
      refine wpAnyH_done (by kernel_rfl) ?_ _
      go_wp2
      go_ret
      refine ⟨_, rfl, ?_, bel_next HB.out hS2⟩
      rw [HRES.out]
      exact OwnR.mono HO9.out (Nat.le_trans HB.out.size BW.size)
    · have HRES : Hid (setA s t [g0, g1, g2, g3, g4] = s.take i ++ [(t, [g0, g1, g2, g3, g4])] ++ s.drop (i + 1)) := by unfold Hid; rw [HADD.out, accA, if_pos hz]; rfl
      have HNZ := hide hz
      clear hz HADD
      go_upto_region 8 with (go_at_call 34; refine (nought11_any g0 g1 g2 g3 g4 _).mono ?_; rintro e w2 ⟨rfl, hb2⟩; rw [HNZ.out]; replace q0 := bcell hb2 q0; replace q1 := bcell hb2 q1; replace q2 := bcell hb2 q2; replace q3 := bcell hb2 q3; replace q4 := bcell hb2 q4; have HB2 := hide hb2; clear hb2)
      replace HV := hide (HV.out.below HB2.out)
      replace HRT := hide (HRT.out.below HB2.out)
      replace HB := hide (bel_next HB.out HB2.out)
      have BN := hide (bel1 w2 (.cells #[.string t, .int .i64 g0, .int .i64 g1, .int .i64 g2, .int .i64 g3, .int .i64 g4] 52))
      have HTT : Hid (RS encA 6 (w2.alloc (.cells #[.string t, .int .i64 g0, .int .i64 g1, .int .i64 g2, .int .i64 g3, .int .i64 g4] 52)) (some ⟨w2.heap.size, 0, none⟩) 1 [(t, [g0, g1, g2, g3, g4])]) := RS.new encA_len w2 _ rfl [(t, [g0, g1, g2, g3, g4])] _ (by simp [encA, atH]) _ _ 1 rfl (by decide)
      replace HV := hide (HV.out.below BN.out)
      replace HRT := hide (HRT.out.below BN.out)
      replace HB := hide (bel_next HB.out BN.out)
      clear BN HB2 q0 q1 q2 q3 q4
      generalize w2.heap.size = GB at *
      generalize hww : w2.alloc (.cells #[.string t, .int .i64 g0, .int .i64 g1, .int .i64 g2, .int .i64 g3, .int .i64 g4] 52) = u at *
      clear hww
      refine wp_region_held_drew (S := fun W => Below u.heap.size u W) (by kernel_rfl) ((Below.refl _ u).drew) (fun hS0 => ?_)
      refine takeInH 0 28 ?v31 rfl rfl (by kernel_rfl) (by kernel_rfl) (by kernel_rfl) (fun _ _ _ h => h) (by kernel_rfl) hS0 ?hy31 ?_
      case hy31 => (intro W hW; clear hW; go_simp; try rfl)
      simp only [Act.put, List.setIfInBounds_toArray, List.set_cons_zero, List.set_cons_succ]
      refine takeInH 1 29 ?v32 rfl rfl (by kernel_rfl) (by kernel_rfl) (by kernel_rfl) (fun _ _ _ h => h) (by kernel_rfl) hS0 ?hy32 ?_
      case hy32 => (intro W hW; clear hW; go_simp; try rfl)
      simp only [Act.put, List.setIfInBounds_toArray, List.set_cons_zero, List.set_cons_succ]
      refine takeInH 2 30 ?v33 rfl rfl (by kernel_rfl) (by kernel_rfl) (by kernel_rfl) (fun _ _ _ h => h) (by kernel_rfl) hS0 ?hy33 ?_
      case hy33 => (intro W hW; clear hW; go_simp; try rfl)
      simp only [Act.put, List.setIfInBounds_toArray, List.set_cons_zero, List.set_cons_succ]
      refine takeInH 3 31 ?v34 rfl rfl (by kernel_rfl) (by kernel_rfl) (by kernel_rfl) (fun _ _ _ h => h) (by kernel_rfl) hS0 ?hy34 ?_
      case hy34 => (intro W hW; clear hW; go_simp; try rfl)
      simp only [Act.put, List.setIfInBounds_toArray, List.set_cons_zero, List.set_cons_succ]
      refine takeInH 4 32 ?v35 rfl rfl (by kernel_rfl) (by kernel_rfl) (by kernel_rfl) (fun _ _ _ h => h) (by kernel_rfl) hS0 ?hy35 ?_
      case hy35 => (intro W hW; clear hW; go_simp; try rfl)
      simp only [Act.put, List.setIfInBounds_toArray, List.set_cons_zero, List.set_cons_succ]
      refine takeInH 5 33 ?v36 rfl rfl (by kernel_rfl) (by kernel_rfl) (by kernel_rfl) (fun _ _ _ h => h) (by kernel_rfl) hS0 ?hy36 ?_
      case hy36 => (intro W hW; clear hW; go_simp; try rfl)
      simp only [Act.put, List.setIfInBounds_toArray, List.set_cons_zero, List.set_cons_succ]
      refine takeInH 6 34 ?v37 rfl rfl (by kernel_rfl) (by kernel_rfl) (by kernel_rfl) (fun _ _ _ h => h) (by kernel_rfl) hS0 ?hy37 ?_
      case hy37 => (intro W hW; clear hW; go_simp; try rfl)
      simp only [Act.put, List.setIfInBounds_toArray, List.set_cons_zero, List.set_cons_succ]
      refine wpAnyH_ready (rs := [7]) (by kernel_rfl) (by simp) ?_
      refine AllReadyH.cons rfl (fun K hK => ?_) AllReadyH.nil
      go_simp
      have BW : Below u.heap.size u (u.alloc (.cells #[.slice (some ⟨b, off, none⟩) i cap, .slice (some ⟨GB, 0, none⟩) 1 1, .slice R (n - (i + 1)) (cap - (i + 1))] 22)).drew := (bel1 u (.cells #[.slice (some ⟨b, off, none⟩) i cap, .slice (some ⟨GB, 0, none⟩) 1 1, .slice R (n - (i + 1)) (cap - (i + 1))] 22)).drew
      have x0 : (u.alloc (.cells #[.slice (some ⟨b, off, none⟩) i cap, .slice (some ⟨GB, 0, none⟩) 1 1, .slice R (n - (i + 1)) (cap - (i + 1))] 22)).drew.cell? ⟨u.heap.size, 0, none⟩ = some (.slice (some ⟨b, off, none⟩) i cap) := cell_new u #[.slice (some ⟨b, off, none⟩) i cap, .slice (some ⟨GB, 0, none⟩) 1 1, .slice R (n - (i + 1)) (cap - (i + 1))] 22 _ rfl 0 _ rfl
      have x1 : (u.alloc (.cells #[.slice (some ⟨b, off, none⟩) i cap, .slice (some ⟨GB, 0, none⟩) 1 1, .slice R (n - (i + 1)) (cap - (i + 1))] 22)).drew.cell? ⟨u.heap.size, 1, none⟩ = some (.slice (some ⟨GB, 0, none⟩) 1 1) := cell_new u #[.slice (some ⟨b, off, none⟩) i cap, .slice (some ⟨GB, 0, none⟩) 1 1, .slice R (n - (i + 1)) (cap - (i + 1))] 22 _ rfl 1 _ rfl
      have x2 : (u.alloc (.cells #[.slice (some ⟨b, off, none⟩) i cap, .slice (some ⟨GB, 0, none⟩) 1 1, .slice R (n - (i + 1)) (cap - (i + 1))] 22)).drew.cell? ⟨u.heap.size, 2, none⟩ = some (.slice R (n - (i + 1)) (cap - (i + 1))) := cell_new u #[.slice (some ⟨b, off, none⟩) i cap, .slice (some ⟨GB, 0, none⟩) 1 1, .slice R (n - (i + 1)) (cap - (i + 1))] 22 _ rfl 2 _ rfl
      generalize (u.alloc (.cells #[.slice (some ⟨b, off, none⟩) i cap, .slice (some ⟨GB, 0, none⟩) 1 1, .slice R (n - (i + 1)) (cap - (i + 1))] 22)).drew = wb at BW x0 x1 x2 ⊢
      refine hK.out _ _ ?hs38 (fun hS1 => ?_)
      case hs38 => exact BW
      clear hK K
      try simp only [Act.put, List.setIfInBounds_toArray, List.set_cons_zero, List.set_cons_succ]
      refine wpAnyH_ready (rs := [8]) (by kernel_rfl) (by simp) ?_
      refine AllReadyH.cons rfl (fun K hK => ?_) AllReadyH.nil
      go_simp
      refine (concatA_any u.heap.size (some ⟨b, off, none⟩) (some ⟨GB, 0, none⟩) R i cap 1 1 (n - (i + 1)) (cap - (i + 1)) (s.take i) [(t, [g0, g1, g2, g3, g4])] (s.drop (i + 1)) _ x0 x1 x2 (rsA_head (HV.out.1.below hS1) i (by omega)) (HTT.out.below hS1) (HRT.out.below hS1) (fun h => by cases h) (fun h => by cases h) HRN.out (by omega)).mono ?_
      rintro e9 wn ⟨v9, rfl, ho9, hb⟩
      have HO9 := hide ho9
      clear ho9
      refine hK.out _ _ ?hs39 (fun hS2 => ?_)
      case hs39 => exact bel_next hS1 hb
      clear hK K hb
      try simp only [Act.put, List.setIfInBounds_toArray, List.set_cons_zero, List.set_cons_succ]
      refine takeInH 9 6 ?v40 rfl rfl (by kernel_rfl) (by kernel_rfl) (by kernel_rfl) (fun _ _ _ h => h) (by kernel_rfl) hS2 ?hy40 ?_
      case hy40 => (intro W hW; clear hW; go_simp; try rfl)
      simp only [Act.put, List.setIfInBounds_toArray, List.set_cons_zero, List.set_cons_succ]
      refine wpAnyH_done (by kernel_rfl) ?_ _
      go_wp2
      go_ret
      refine ⟨_, rfl, ?_, bel_next HB.out hS2⟩
      rw [HRES.out]
      exact OwnR.mono HO9.out (Nat.le_trans HB.out.size BW.size)
set_option maxHeartbeats 4000000 in
theorem with_none  (t : ByteArray) (g0 g1 g2 g3 g4 : Int) (w : World)  :
    Calls Try.prog 28 #[.slice none 0 0, .string t, .agg #[.int .i64 g0, .int .i64 g1, .int .i64 g2, .int .i64 g3, .int .i64 g4]] w fun e w' => ∃ v, e = .returned v ∧ OwnR encA 6 52 w.heap.size w' v (setA [] t [g0, g1, g2, g3, g4]) ∧ Below w.heap.size w w' := by
  have HPL := hide (fun W => placeA_any none 0 0 [] t W (AC.nil _ _) (by simp [SrtG]) (by decide))
  have HADD : Hid (setA [] t [g0, g1, g2, g3, g4] = (accA t [g0, g1, g2, g3, g4]).toList) := by unfold Hid setA putG; simp
  have HB0 := hide (bel1 w (.cells #[.int .i64 g0, .int .i64 g1, .int .i64 g2, .int .i64 g3, .int .i64 g4] 50))
  have q0 := (BX.new w _ rfl #[.int .i64 g0, .int .i64 g1, .int .i64 g2, .int .i64 g3, .int .i64 g4] 50).cell 0 _ rfl
  have q1 := (BX.new w _ rfl #[.int .i64 g0, .int .i64 g1, .int .i64 g2, .int .i64 g3, .int .i64 g4] 50).cell 1 _ rfl
  have q2 := (BX.new w _ rfl #[.int .i64 g0, .int .i64 g1, .int .i64 g2, .int .i64 g3, .int .i64 g4] 50).cell 2 _ rfl
  have q3 := (BX.new w _ rfl #[.int .i64 g0, .int .i64 g1, .int .i64 g2, .int .i64 g3, .int .i64 g4] 50).cell 3 _ rfl
  have q4 := (BX.new w _ rfl #[.int .i64 g0, .int .i64 g1, .int .i64 g2, .int .i64 g3, .int .i64 g4] 50).cell 4 _ rfl
  go_enter Try.func28, Try.ntmps28
  go_upto_region 2 with (go_at_call 33; refine (HPL.out _).mono ?_; rintro e w1 ⟨⟨i, rfl, hp⟩, hb⟩)
  have HB := hide (bel_next HB0.out hb)
  replace q0 := bcell hb q0
  replace q1 := bcell hb q1
  replace q2 := bcell hb q2
  replace q3 := bcell hb q3
  replace q4 := bcell hb q4
  obtain rfl : i = 0 := by have := hp.1; simpa using this
  clear hp hb HPL HB0
  have ht : thereG kA ([] : List Ac) t 0 = false := rfl
  rw [ht]
  have hc0 : (0 : Int) ≤ (0 : Int) := by omega
  rcases hz : [g0, g1, g2, g3, g4].any nz with _ | _
  · have HRES : Hid (setA [] t [g0, g1, g2, g3, g4] = [] ++ [] ++ []) := by unfold Hid; rw [HADD.out, accA, if_neg (by rw [hz]; simp)]; rfl
    have HNZ := hide hz
    clear hz HADD
    go_upto_region 8 with (go_at_call 34; refine (nought11_any g0 g1 g2 g3 g4 _).mono ?_; rintro e w2 ⟨rfl, hb2⟩; rw [HNZ.out]; replace q0 := bcell hb2 q0; replace q1 := bcell hb2 q1; replace q2 := bcell hb2 q2; replace q3 := bcell hb2 q3; replace q4 := bcell hb2 q4; have HB2 := hide hb2; clear hb2)
    skip
    replace HB := hide (bel_next HB.out HB2.out)
    have HTT : Hid (RS encA 6 w2 none 0 []) := RS.nil _ _
    clear HB2 q0 q1 q2 q3 q4
    generalize hww : w2 = u at *
    clear hww
    refine wp_region_held_drew (S := fun W => Below u.heap.size u W) (by kernel_rfl) ((Below.refl _ u).drew) (fun hS0 => ?_)
    refine takeInH 0 28 ?v41 rfl rfl (by kernel_rfl) (by kernel_rfl) (by kernel_rfl) (fun _ _ _ h => h) (by kernel_rfl) hS0 ?hy41 ?_
    case hy41 => (intro W hW; clear hW; go_simp; try rfl)
    simp only [Act.put, List.setIfInBounds_toArray, List.set_cons_zero, List.set_cons_succ]
    refine takeInH 1 29 ?v42 rfl rfl (by kernel_rfl) (by kernel_rfl) (by kernel_rfl) (fun _ _ _ h => h) (by kernel_rfl) hS0 ?hy42 ?_
    case hy42 => (intro W hW; clear hW; go_simp; try rfl)
    simp only [Act.put, List.setIfInBounds_toArray, List.set_cons_zero, List.set_cons_succ]
    refine takeInH 2 30 ?v43 rfl rfl (by kernel_rfl) (by kernel_rfl) (by kernel_rfl) (fun _ _ _ h => h) (by kernel_rfl) hS0 ?hy43 ?_
    case hy43 => (intro W hW; clear hW; go_simp; try rfl)
    simp only [Act.put, List.setIfInBounds_toArray, List.set_cons_zero, List.set_cons_succ]
    refine takeInH 3 31 ?v44 rfl rfl (by kernel_rfl) (by kernel_rfl) (by kernel_rfl) (fun _ _ _ h => h) (by kernel_rfl) hS0 ?hy44 ?_
    case hy44 => (intro W hW; clear hW; go_simp; try rfl)
    simp only [Act.put, List.setIfInBounds_toArray, List.set_cons_zero, List.set_cons_succ]
    refine takeInH 4 32 ?v45 rfl rfl (by kernel_rfl) (by kernel_rfl) (by kernel_rfl) (fun _ _ _ h => h) (by kernel_rfl) hS0 ?hy45 ?_
    case hy45 => (intro W hW; clear hW; go_simp; try rfl)
    simp only [Act.put, List.setIfInBounds_toArray, List.set_cons_zero, List.set_cons_succ]
    refine takeInH 5 33 ?v46 rfl rfl (by kernel_rfl) (by kernel_rfl) (by kernel_rfl) (fun _ _ _ h => h) (by kernel_rfl) hS0 ?hy46 ?_
    case hy46 => (intro W hW; clear hW; go_simp; try rfl)
    simp only [Act.put, List.setIfInBounds_toArray, List.set_cons_zero, List.set_cons_succ]
    refine takeInH 6 34 ?v47 rfl rfl (by kernel_rfl) (by kernel_rfl) (by kernel_rfl) (fun _ _ _ h => h) (by kernel_rfl) hS0 ?hy47 ?_
    case hy47 => (intro W hW; clear hW; go_simp; try rfl)
    simp only [Act.put, List.setIfInBounds_toArray, List.set_cons_zero, List.set_cons_succ]
    refine wpAnyH_ready (rs := [7]) (by kernel_rfl) (by simp) ?_
    refine AllReadyH.cons rfl (fun K hK => ?_) AllReadyH.nil
    go_simp
    have BW : Below u.heap.size u (u.alloc (.cells #[.slice none 0 0, .slice none 0 0, .slice none 0 0] 22)).drew := (bel1 u (.cells #[.slice none 0 0, .slice none 0 0, .slice none 0 0] 22)).drew
    have x0 : (u.alloc (.cells #[.slice none 0 0, .slice none 0 0, .slice none 0 0] 22)).drew.cell? ⟨u.heap.size, 0, none⟩ = some (.slice none 0 0) := cell_new u #[.slice none 0 0, .slice none 0 0, .slice none 0 0] 22 _ rfl 0 _ rfl
    have x1 : (u.alloc (.cells #[.slice none 0 0, .slice none 0 0, .slice none 0 0] 22)).drew.cell? ⟨u.heap.size, 1, none⟩ = some (.slice none 0 0) := cell_new u #[.slice none 0 0, .slice none 0 0, .slice none 0 0] 22 _ rfl 1 _ rfl
    have x2 : (u.alloc (.cells #[.slice none 0 0, .slice none 0 0, .slice none 0 0] 22)).drew.cell? ⟨u.heap.size, 2, none⟩ = some (.slice none 0 0) := cell_new u #[.slice none 0 0, .slice none 0 0, .slice none 0 0] 22 _ rfl 2 _ rfl
    generalize (u.alloc (.cells #[.slice none 0 0, .slice none 0 0, .slice none 0 0] 22)).drew = wb at BW x0 x1 x2 ⊢
    refine hK.out _ _ ?hs48 (fun hS1 => ?_)
    case hs48 => exact BW
    clear hK K
    try simp only [Act.put, List.setIfInBounds_toArray, List.set_cons_zero, List.set_cons_succ]
    refine wpAnyH_ready (rs := [8]) (by kernel_rfl) (by simp) ?_
    refine AllReadyH.cons rfl (fun K hK => ?_) AllReadyH.nil
    go_simp
    refine (concatA_any u.heap.size none none none 0 0 0 0 0 0 [] [] [] _ x0 x1 x2 (RS.nil _ _) (HTT.out.below hS1) (RS.nil _ _) (fun _ => rfl) (fun _ => rfl) (fun _ => rfl) (by omega)).mono ?_
    rintro e9 wn ⟨v9, rfl, ho9, hb⟩
    have HO9 := hide ho9
    clear ho9
    refine hK.out _ _ ?hs49 (fun hS2 => ?_)
    case hs49 => exact bel_next hS1 hb
    clear hK K hb
    try simp only [Act.put, List.setIfInBounds_toArray, List.set_cons_zero, List.set_cons_succ]
    refine takeInH 9 6 ?v50 rfl rfl (by kernel_rfl) (by kernel_rfl) (by kernel_rfl) (fun _ _ _ h => h) (by kernel_rfl) hS2 ?hy50 ?_
    case hy50 => (intro W hW; clear hW; go_simp; try rfl)
    simp only [Act.put, List.setIfInBounds_toArray, List.set_cons_zero, List.set_cons_succ]
    refine wpAnyH_done (by kernel_rfl) ?_ _
    go_wp2
    go_ret
    refine ⟨_, rfl, ?_, bel_next HB.out hS2⟩
    rw [HRES.out]
    exact OwnR.mono HO9.out (Nat.le_trans HB.out.size BW.size)
  · have HRES : Hid (setA [] t [g0, g1, g2, g3, g4] = [] ++ [(t, [g0, g1, g2, g3, g4])] ++ []) := by unfold Hid; rw [HADD.out, accA, if_pos hz]; rfl
    have HNZ := hide hz
    clear hz HADD
    go_upto_region 8 with (go_at_call 34; refine (nought11_any g0 g1 g2 g3 g4 _).mono ?_; rintro e w2 ⟨rfl, hb2⟩; rw [HNZ.out]; replace q0 := bcell hb2 q0; replace q1 := bcell hb2 q1; replace q2 := bcell hb2 q2; replace q3 := bcell hb2 q3; replace q4 := bcell hb2 q4; have HB2 := hide hb2; clear hb2)
    skip
    replace HB := hide (bel_next HB.out HB2.out)
    have BN := hide (bel1 w2 (.cells #[.string t, .int .i64 g0, .int .i64 g1, .int .i64 g2, .int .i64 g3, .int .i64 g4] 52))
    have HTT : Hid (RS encA 6 (w2.alloc (.cells #[.string t, .int .i64 g0, .int .i64 g1, .int .i64 g2, .int .i64 g3, .int .i64 g4] 52)) (some ⟨w2.heap.size, 0, none⟩) 1 [(t, [g0, g1, g2, g3, g4])]) := RS.new encA_len w2 _ rfl [(t, [g0, g1, g2, g3, g4])] _ (by simp [encA, atH]) _ _ 1 rfl (by decide)
    skip
    replace HB := hide (bel_next HB.out BN.out)
    clear BN HB2 q0 q1 q2 q3 q4
    generalize w2.heap.size = GB at *
    generalize hww : w2.alloc (.cells #[.string t, .int .i64 g0, .int .i64 g1, .int .i64 g2, .int .i64 g3, .int .i64 g4] 52) = u at *
    clear hww
    refine wp_region_held_drew (S := fun W => Below u.heap.size u W) (by kernel_rfl) ((Below.refl _ u).drew) (fun hS0 => ?_)
    refine takeInH 0 28 ?v51 rfl rfl (by kernel_rfl) (by kernel_rfl) (by kernel_rfl) (fun _ _ _ h => h) (by kernel_rfl) hS0 ?hy51 ?_
    case hy51 => (intro W hW; clear hW; go_simp; try rfl)
    simp only [Act.put, List.setIfInBounds_toArray, List.set_cons_zero, List.set_cons_succ]
    refine takeInH 1 29 ?v52 rfl rfl (by kernel_rfl) (by kernel_rfl) (by kernel_rfl) (fun _ _ _ h => h) (by kernel_rfl) hS0 ?hy52 ?_
    case hy52 => (intro W hW; clear hW; go_simp; try rfl)
    simp only [Act.put, List.setIfInBounds_toArray, List.set_cons_zero, List.set_cons_succ]
    refine takeInH 2 30 ?v53 rfl rfl (by kernel_rfl) (by kernel_rfl) (by kernel_rfl) (fun _ _ _ h => h) (by kernel_rfl) hS0 ?hy53 ?_
    case hy53 => (intro W hW; clear hW; go_simp; try rfl)
    simp only [Act.put, List.setIfInBounds_toArray, List.set_cons_zero, List.set_cons_succ]
    refine takeInH 3 31 ?v54 rfl rfl (by kernel_rfl) (by kernel_rfl) (by kernel_rfl) (fun _ _ _ h => h) (by kernel_rfl) hS0 ?hy54 ?_
    case hy54 => (intro W hW; clear hW; go_simp; try rfl)
    simp only [Act.put, List.setIfInBounds_toArray, List.set_cons_zero, List.set_cons_succ]
    refine takeInH 4 32 ?v55 rfl rfl (by kernel_rfl) (by kernel_rfl) (by kernel_rfl) (fun _ _ _ h => h) (by kernel_rfl) hS0 ?hy55 ?_
    case hy55 => (intro W hW; clear hW; go_simp; try rfl)
    simp only [Act.put, List.setIfInBounds_toArray, List.set_cons_zero, List.set_cons_succ]
    refine takeInH 5 33 ?v56 rfl rfl (by kernel_rfl) (by kernel_rfl) (by kernel_rfl) (fun _ _ _ h => h) (by kernel_rfl) hS0 ?hy56 ?_
    case hy56 => (intro W hW; clear hW; go_simp; try rfl)
    simp only [Act.put, List.setIfInBounds_toArray, List.set_cons_zero, List.set_cons_succ]
    refine takeInH 6 34 ?v57 rfl rfl (by kernel_rfl) (by kernel_rfl) (by kernel_rfl) (fun _ _ _ h => h) (by kernel_rfl) hS0 ?hy57 ?_
    case hy57 => (intro W hW; clear hW; go_simp; try rfl)
    simp only [Act.put, List.setIfInBounds_toArray, List.set_cons_zero, List.set_cons_succ]
    refine wpAnyH_ready (rs := [7]) (by kernel_rfl) (by simp) ?_
    refine AllReadyH.cons rfl (fun K hK => ?_) AllReadyH.nil
    go_simp
    have BW : Below u.heap.size u (u.alloc (.cells #[.slice none 0 0, .slice (some ⟨GB, 0, none⟩) 1 1, .slice none 0 0] 22)).drew := (bel1 u (.cells #[.slice none 0 0, .slice (some ⟨GB, 0, none⟩) 1 1, .slice none 0 0] 22)).drew
    have x0 : (u.alloc (.cells #[.slice none 0 0, .slice (some ⟨GB, 0, none⟩) 1 1, .slice none 0 0] 22)).drew.cell? ⟨u.heap.size, 0, none⟩ = some (.slice none 0 0) := cell_new u #[.slice none 0 0, .slice (some ⟨GB, 0, none⟩) 1 1, .slice none 0 0] 22 _ rfl 0 _ rfl
    have x1 : (u.alloc (.cells #[.slice none 0 0, .slice (some ⟨GB, 0, none⟩) 1 1, .slice none 0 0] 22)).drew.cell? ⟨u.heap.size, 1, none⟩ = some (.slice (some ⟨GB, 0, none⟩) 1 1) := cell_new u #[.slice none 0 0, .slice (some ⟨GB, 0, none⟩) 1 1, .slice none 0 0] 22 _ rfl 1 _ rfl
    have x2 : (u.alloc (.cells #[.slice none 0 0, .slice (some ⟨GB, 0, none⟩) 1 1, .slice none 0 0] 22)).drew.cell? ⟨u.heap.size, 2, none⟩ = some (.slice none 0 0) := cell_new u #[.slice none 0 0, .slice (some ⟨GB, 0, none⟩) 1 1, .slice none 0 0] 22 _ rfl 2 _ rfl
    generalize (u.alloc (.cells #[.slice none 0 0, .slice (some ⟨GB, 0, none⟩) 1 1, .slice none 0 0] 22)).drew = wb at BW x0 x1 x2 ⊢
    refine hK.out _ _ ?hs58 (fun hS1 => ?_)
    case hs58 => exact BW
    clear hK K
    try simp only [Act.put, List.setIfInBounds_toArray, List.set_cons_zero, List.set_cons_succ]
    refine wpAnyH_ready (rs := [8]) (by kernel_rfl) (by simp) ?_
    refine AllReadyH.cons rfl (fun K hK => ?_) AllReadyH.nil
    go_simp
    refine (concatA_any u.heap.size none (some ⟨GB, 0, none⟩) none 0 0 1 1 0 0 [] [(t, [g0, g1, g2, g3, g4])] [] _ x0 x1 x2 (RS.nil _ _) (HTT.out.below hS1) (RS.nil _ _) (fun _ => rfl) (fun h => by cases h) (fun _ => rfl) (by omega)).mono ?_
    rintro e9 wn ⟨v9, rfl, ho9, hb⟩
    have HO9 := hide ho9
    clear ho9
    refine hK.out _ _ ?hs59 (fun hS2 => ?_)
    case hs59 => exact bel_next hS1 hb
    clear hK K hb
    try simp only [Act.put, List.setIfInBounds_toArray, List.set_cons_zero, List.set_cons_succ]
    refine takeInH 9 6 ?v60 rfl rfl (by kernel_rfl) (by kernel_rfl) (by kernel_rfl) (fun _ _ _ h => h) (by kernel_rfl) hS2 ?hy60 ?_
    case hy60 => (intro W hW; clear hW; go_simp; try rfl)
    simp only [Act.put, List.setIfInBounds_toArray, List.set_cons_zero, List.set_cons_succ]
    refine wpAnyH_done (by kernel_rfl) ?_ _
    go_wp2
    go_ret
    refine ⟨_, rfl, ?_, bel_next HB.out hS2⟩
    rw [HRES.out]
    exact OwnR.mono HO9.out (Nat.le_trans HB.out.size BW.size)
set_option maxHeartbeats 4000000 in
theorem with_zero (b off cap : Nat) (fz : _) (t : ByteArray) (g0 g1 g2 g3 g4 : Int) (w : World) (hcm : cap ≤ maxLen) :
    Calls Try.prog 28 #[.slice (some ⟨b, off, fz⟩) 0 cap, .string t, .agg #[.int .i64 g0, .int .i64 g1, .int .i64 g2, .int .i64 g3, .int .i64 g4]] w fun e w' => ∃ v, e = .returned v ∧ OwnR encA 6 52 w.heap.size w' v (setA [] t [g0, g1, g2, g3, g4]) ∧ Below w.heap.size w w' := by
  have HPL := hide (fun W => placeA_any (some ⟨b, off, fz⟩) 0 cap [] t W (AC.nil _ _) (by simp [SrtG]) (by decide))
  have HADD : Hid (setA [] t [g0, g1, g2, g3, g4] = (accA t [g0, g1, g2, g3, g4]).toList) := by unfold Hid setA putG; simp
  have HB0 := hide (bel1 w (.cells #[.int .i64 g0, .int .i64 g1, .int .i64 g2, .int .i64 g3, .int .i64 g4] 50))
  have q0 := (BX.new w _ rfl #[.int .i64 g0, .int .i64 g1, .int .i64 g2, .int .i64 g3, .int .i64 g4] 50).cell 0 _ rfl
  have q1 := (BX.new w _ rfl #[.int .i64 g0, .int .i64 g1, .int .i64 g2, .int .i64 g3, .int .i64 g4] 50).cell 1 _ rfl
  have q2 := (BX.new w _ rfl #[.int .i64 g0, .int .i64 g1, .int .i64 g2, .int .i64 g3, .int .i64 g4] 50).cell 2 _ rfl
  have q3 := (BX.new w _ rfl #[.int .i64 g0, .int .i64 g1, .int .i64 g2, .int .i64 g3, .int .i64 g4] 50).cell 3 _ rfl
  have q4 := (BX.new w _ rfl #[.int .i64 g0, .int .i64 g1, .int .i64 g2, .int .i64 g3, .int .i64 g4] 50).cell 4 _ rfl
  go_enter Try.func28, Try.ntmps28
  go_upto_region 2 with (go_at_call 33; refine (HPL.out _).mono ?_; rintro e w1 ⟨⟨i, rfl, hp⟩, hb⟩)
  have HB := hide (bel_next HB0.out hb)
  replace q0 := bcell hb q0
  replace q1 := bcell hb q1
  replace q2 := bcell hb q2
  replace q3 := bcell hb q3
  replace q4 := bcell hb q4
  obtain rfl : i = 0 := by have := hp.1; simpa using this
  clear hp hb HPL HB0
  have ht : thereG kA ([] : List Ac) t 0 = false := rfl
  rw [ht]
  have hc0 : (0 : Int) ≤ (cap : Int) := by omega
  rcases hz : [g0, g1, g2, g3, g4].any nz with _ | _
  · have HRES : Hid (setA [] t [g0, g1, g2, g3, g4] = [] ++ [] ++ []) := by unfold Hid; rw [HADD.out, accA, if_neg (by rw [hz]; simp)]; rfl
    have HNZ := hide hz
    clear hz HADD
    go_upto_region 8 with (go_at_call 34; refine (nought11_any g0 g1 g2 g3 g4 _).mono ?_; rintro e w2 ⟨rfl, hb2⟩; rw [HNZ.out]; replace q0 := bcell hb2 q0; replace q1 := bcell hb2 q1; replace q2 := bcell hb2 q2; replace q3 := bcell hb2 q3; replace q4 := bcell hb2 q4; have HB2 := hide hb2; clear hb2)
    skip
    replace HB := hide (bel_next HB.out HB2.out)
    have HTT : Hid (RS encA 6 w2 none 0 []) := RS.nil _ _
    clear HB2 q0 q1 q2 q3 q4
    generalize hww : w2 = u at *
    clear hww
    refine wp_region_held_drew (S := fun W => Below u.heap.size u W) (by kernel_rfl) ((Below.refl _ u).drew) (fun hS0 => ?_)
    refine takeInH 0 28 ?v61 rfl rfl (by kernel_rfl) (by kernel_rfl) (by kernel_rfl) (fun _ _ _ h => h) (by kernel_rfl) hS0 ?hy61 ?_
    case hy61 => (intro W hW; clear hW; go_simp; try rfl)
    simp only [Act.put, List.setIfInBounds_toArray, List.set_cons_zero, List.set_cons_succ]
    refine takeInH 1 29 ?v62 rfl rfl (by kernel_rfl) (by kernel_rfl) (by kernel_rfl) (fun _ _ _ h => h) (by kernel_rfl) hS0 ?hy62 ?_
    case hy62 => (intro W hW; clear hW; go_simp; try rfl)
    simp only [Act.put, List.setIfInBounds_toArray, List.set_cons_zero, List.set_cons_succ]
    refine takeInH 2 30 ?v63 rfl rfl (by kernel_rfl) (by kernel_rfl) (by kernel_rfl) (fun _ _ _ h => h) (by kernel_rfl) hS0 ?hy63 ?_
    case hy63 => (intro W hW; clear hW; go_simp; try rfl)
    simp only [Act.put, List.setIfInBounds_toArray, List.set_cons_zero, List.set_cons_succ]
    refine takeInH 3 31 ?v64 rfl rfl (by kernel_rfl) (by kernel_rfl) (by kernel_rfl) (fun _ _ _ h => h) (by kernel_rfl) hS0 ?hy64 ?_
    case hy64 => (intro W hW; clear hW; go_simp; try rfl)
    simp only [Act.put, List.setIfInBounds_toArray, List.set_cons_zero, List.set_cons_succ]
    refine takeInH 4 32 ?v65 rfl rfl (by kernel_rfl) (by kernel_rfl) (by kernel_rfl) (fun _ _ _ h => h) (by kernel_rfl) hS0 ?hy65 ?_
    case hy65 => (intro W hW; clear hW; go_simp; try rfl)
    simp only [Act.put, List.setIfInBounds_toArray, List.set_cons_zero, List.set_cons_succ]
    refine takeInH 5 33 ?v66 rfl rfl (by kernel_rfl) (by kernel_rfl) (by kernel_rfl) (fun _ _ _ h => h) (by kernel_rfl) hS0 ?hy66 ?_
    case hy66 => (intro W hW; clear hW; go_simp; try rfl)
    simp only [Act.put, List.setIfInBounds_toArray, List.set_cons_zero, List.set_cons_succ]
    refine takeInH 6 34 ?v67 rfl rfl (by kernel_rfl) (by kernel_rfl) (by kernel_rfl) (fun _ _ _ h => h) (by kernel_rfl) hS0 ?hy67 ?_
    case hy67 => (intro W hW; clear hW; go_simp; try rfl)
    simp only [Act.put, List.setIfInBounds_toArray, List.set_cons_zero, List.set_cons_succ]
    refine wpAnyH_ready (rs := [7]) (by kernel_rfl) (by simp) ?_
    refine AllReadyH.cons rfl (fun K hK => ?_) AllReadyH.nil
    go_simp
    have BW : Below u.heap.size u (u.alloc (.cells #[.slice (some ⟨b, off, fz⟩) 0 cap, .slice none 0 0, .slice (some ⟨b, off, fz⟩) 0 cap] 22)).drew := (bel1 u (.cells #[.slice (some ⟨b, off, fz⟩) 0 cap, .slice none 0 0, .slice (some ⟨b, off, fz⟩) 0 cap] 22)).drew
    have x0 : (u.alloc (.cells #[.slice (some ⟨b, off, fz⟩) 0 cap, .slice none 0 0, .slice (some ⟨b, off, fz⟩) 0 cap] 22)).drew.cell? ⟨u.heap.size, 0, none⟩ = some (.slice (some ⟨b, off, fz⟩) 0 cap) := cell_new u #[.slice (some ⟨b, off, fz⟩) 0 cap, .slice none 0 0, .slice (some ⟨b, off, fz⟩) 0 cap] 22 _ rfl 0 _ rfl
    have x1 : (u.alloc (.cells #[.slice (some ⟨b, off, fz⟩) 0 cap, .slice none 0 0, .slice (some ⟨b, off, fz⟩) 0 cap] 22)).drew.cell? ⟨u.heap.size, 1, none⟩ = some (.slice none 0 0) := cell_new u #[.slice (some ⟨b, off, fz⟩) 0 cap, .slice none 0 0, .slice (some ⟨b, off, fz⟩) 0 cap] 22 _ rfl 1 _ rfl
    have x2 : (u.alloc (.cells #[.slice (some ⟨b, off, fz⟩) 0 cap, .slice none 0 0, .slice (some ⟨b, off, fz⟩) 0 cap] 22)).drew.cell? ⟨u.heap.size, 2, none⟩ = some (.slice (some ⟨b, off, fz⟩) 0 cap) := cell_new u #[.slice (some ⟨b, off, fz⟩) 0 cap, .slice none 0 0, .slice (some ⟨b, off, fz⟩) 0 cap] 22 _ rfl 2 _ rfl
    generalize (u.alloc (.cells #[.slice (some ⟨b, off, fz⟩) 0 cap, .slice none 0 0, .slice (some ⟨b, off, fz⟩) 0 cap] 22)).drew = wb at BW x0 x1 x2 ⊢
    refine hK.out _ _ ?hs68 (fun hS1 => ?_)
    case hs68 => exact BW
    clear hK K
    try simp only [Act.put, List.setIfInBounds_toArray, List.set_cons_zero, List.set_cons_succ]
    refine wpAnyH_ready (rs := [8]) (by kernel_rfl) (by simp) ?_
    refine AllReadyH.cons rfl (fun K hK => ?_) AllReadyH.nil
    go_simp
    refine (concatA_any u.heap.size (some ⟨b, off, fz⟩) none (some ⟨b, off, fz⟩) 0 cap 0 0 0 cap [] [] [] _ x0 x1 x2 (RS.nil _ _) (HTT.out.below hS1) (RS.nil _ _) (fun h => by cases h) (fun _ => rfl) (fun h => by cases h) (by omega)).mono ?_
    rintro e9 wn ⟨v9, rfl, ho9, hb⟩
    have HO9 := hide ho9
    clear ho9
    refine hK.out _ _ ?hs69 (fun hS2 => ?_)
    case hs69 => exact bel_next hS1 hb
    clear hK K hb
    try simp only [Act.put, List.setIfInBounds_toArray, List.set_cons_zero, List.set_cons_succ]
    refine takeInH 9 6 ?v70 rfl rfl (by kernel_rfl) (by kernel_rfl) (by kernel_rfl) (fun _ _ _ h => h) (by kernel_rfl) hS2 ?hy70 ?_
    case hy70 => (intro W hW; clear hW; go_simp; try rfl)
    simp only [Act.put, List.setIfInBounds_toArray, List.set_cons_zero, List.set_cons_succ]
    refine wpAnyH_done (by kernel_rfl) ?_ _
    go_wp2
    go_ret
    refine ⟨_, rfl, ?_, bel_next HB.out hS2⟩
    rw [HRES.out]
    exact OwnR.mono HO9.out (Nat.le_trans HB.out.size BW.size)
  · have HRES : Hid (setA [] t [g0, g1, g2, g3, g4] = [] ++ [(t, [g0, g1, g2, g3, g4])] ++ []) := by unfold Hid; rw [HADD.out, accA, if_pos hz]; rfl
    have HNZ := hide hz
    clear hz HADD
    go_upto_region 8 with (go_at_call 34; refine (nought11_any g0 g1 g2 g3 g4 _).mono ?_; rintro e w2 ⟨rfl, hb2⟩; rw [HNZ.out]; replace q0 := bcell hb2 q0; replace q1 := bcell hb2 q1; replace q2 := bcell hb2 q2; replace q3 := bcell hb2 q3; replace q4 := bcell hb2 q4; have HB2 := hide hb2; clear hb2)
    skip
    replace HB := hide (bel_next HB.out HB2.out)
    have BN := hide (bel1 w2 (.cells #[.string t, .int .i64 g0, .int .i64 g1, .int .i64 g2, .int .i64 g3, .int .i64 g4] 52))
    have HTT : Hid (RS encA 6 (w2.alloc (.cells #[.string t, .int .i64 g0, .int .i64 g1, .int .i64 g2, .int .i64 g3, .int .i64 g4] 52)) (some ⟨w2.heap.size, 0, none⟩) 1 [(t, [g0, g1, g2, g3, g4])]) := RS.new encA_len w2 _ rfl [(t, [g0, g1, g2, g3, g4])] _ (by simp [encA, atH]) _ _ 1 rfl (by decide)
    skip
    replace HB := hide (bel_next HB.out BN.out)
    clear BN HB2 q0 q1 q2 q3 q4
    generalize w2.heap.size = GB at *
    generalize hww : w2.alloc (.cells #[.string t, .int .i64 g0, .int .i64 g1, .int .i64 g2, .int .i64 g3, .int .i64 g4] 52) = u at *
    clear hww
    refine wp_region_held_drew (S := fun W => Below u.heap.size u W) (by kernel_rfl) ((Below.refl _ u).drew) (fun hS0 => ?_)
    refine takeInH 0 28 ?v71 rfl rfl (by kernel_rfl) (by kernel_rfl) (by kernel_rfl) (fun _ _ _ h => h) (by kernel_rfl) hS0 ?hy71 ?_
    case hy71 => (intro W hW; clear hW; go_simp; try rfl)
    simp only [Act.put, List.setIfInBounds_toArray, List.set_cons_zero, List.set_cons_succ]
    refine takeInH 1 29 ?v72 rfl rfl (by kernel_rfl) (by kernel_rfl) (by kernel_rfl) (fun _ _ _ h => h) (by kernel_rfl) hS0 ?hy72 ?_
    case hy72 => (intro W hW; clear hW; go_simp; try rfl)
    simp only [Act.put, List.setIfInBounds_toArray, List.set_cons_zero, List.set_cons_succ]
    refine takeInH 2 30 ?v73 rfl rfl (by kernel_rfl) (by kernel_rfl) (by kernel_rfl) (fun _ _ _ h => h) (by kernel_rfl) hS0 ?hy73 ?_
    case hy73 => (intro W hW; clear hW; go_simp; try rfl)
    simp only [Act.put, List.setIfInBounds_toArray, List.set_cons_zero, List.set_cons_succ]
    refine takeInH 3 31 ?v74 rfl rfl (by kernel_rfl) (by kernel_rfl) (by kernel_rfl) (fun _ _ _ h => h) (by kernel_rfl) hS0 ?hy74 ?_
    case hy74 => (intro W hW; clear hW; go_simp; try rfl)
    simp only [Act.put, List.setIfInBounds_toArray, List.set_cons_zero, List.set_cons_succ]
    refine takeInH 4 32 ?v75 rfl rfl (by kernel_rfl) (by kernel_rfl) (by kernel_rfl) (fun _ _ _ h => h) (by kernel_rfl) hS0 ?hy75 ?_
    case hy75 => (intro W hW; clear hW; go_simp; try rfl)
    simp only [Act.put, List.setIfInBounds_toArray, List.set_cons_zero, List.set_cons_succ]
    refine takeInH 5 33 ?v76 rfl rfl (by kernel_rfl) (by kernel_rfl) (by kernel_rfl) (fun _ _ _ h => h) (by kernel_rfl) hS0 ?hy76 ?_
    case hy76 => (intro W hW; clear hW; go_simp; try rfl)
    simp only [Act.put, List.setIfInBounds_toArray, List.set_cons_zero, List.set_cons_succ]
    refine takeInH 6 34 ?v77 rfl rfl (by kernel_rfl) (by kernel_rfl) (by kernel_rfl) (fun _ _ _ h => h) (by kernel_rfl) hS0 ?hy77 ?_
    case hy77 => (intro W hW; clear hW; go_simp; try rfl)
    simp only [Act.put, List.setIfInBounds_toArray, List.set_cons_zero, List.set_cons_succ]
    refine wpAnyH_ready (rs := [7]) (by kernel_rfl) (by simp) ?_
    refine AllReadyH.cons rfl (fun K hK => ?_) AllReadyH.nil
    go_simp
    have BW : Below u.heap.size u (u.alloc (.cells #[.slice (some ⟨b, off, fz⟩) 0 cap, .slice (some ⟨GB, 0, none⟩) 1 1, .slice (some ⟨b, off, fz⟩) 0 cap] 22)).drew := (bel1 u (.cells #[.slice (some ⟨b, off, fz⟩) 0 cap, .slice (some ⟨GB, 0, none⟩) 1 1, .slice (some ⟨b, off, fz⟩) 0 cap] 22)).drew
    have x0 : (u.alloc (.cells #[.slice (some ⟨b, off, fz⟩) 0 cap, .slice (some ⟨GB, 0, none⟩) 1 1, .slice (some ⟨b, off, fz⟩) 0 cap] 22)).drew.cell? ⟨u.heap.size, 0, none⟩ = some (.slice (some ⟨b, off, fz⟩) 0 cap) := cell_new u #[.slice (some ⟨b, off, fz⟩) 0 cap, .slice (some ⟨GB, 0, none⟩) 1 1, .slice (some ⟨b, off, fz⟩) 0 cap] 22 _ rfl 0 _ rfl
    have x1 : (u.alloc (.cells #[.slice (some ⟨b, off, fz⟩) 0 cap, .slice (some ⟨GB, 0, none⟩) 1 1, .slice (some ⟨b, off, fz⟩) 0 cap] 22)).drew.cell? ⟨u.heap.size, 1, none⟩ = some (.slice (some ⟨GB, 0, none⟩) 1 1) := cell_new u #[.slice (some ⟨b, off, fz⟩) 0 cap, .slice (some ⟨GB, 0, none⟩) 1 1, .slice (some ⟨b, off, fz⟩) 0 cap] 22 _ rfl 1 _ rfl
    have x2 : (u.alloc (.cells #[.slice (some ⟨b, off, fz⟩) 0 cap, .slice (some ⟨GB, 0, none⟩) 1 1, .slice (some ⟨b, off, fz⟩) 0 cap] 22)).drew.cell? ⟨u.heap.size, 2, none⟩ = some (.slice (some ⟨b, off, fz⟩) 0 cap) := cell_new u #[.slice (some ⟨b, off, fz⟩) 0 cap, .slice (some ⟨GB, 0, none⟩) 1 1, .slice (some ⟨b, off, fz⟩) 0 cap] 22 _ rfl 2 _ rfl
    generalize (u.alloc (.cells #[.slice (some ⟨b, off, fz⟩) 0 cap, .slice (some ⟨GB, 0, none⟩) 1 1, .slice (some ⟨b, off, fz⟩) 0 cap] 22)).drew = wb at BW x0 x1 x2 ⊢
    refine hK.out _ _ ?hs78 (fun hS1 => ?_)
    case hs78 => exact BW
    clear hK K
    try simp only [Act.put, List.setIfInBounds_toArray, List.set_cons_zero, List.set_cons_succ]
    refine wpAnyH_ready (rs := [8]) (by kernel_rfl) (by simp) ?_
    refine AllReadyH.cons rfl (fun K hK => ?_) AllReadyH.nil
    go_simp
    refine (concatA_any u.heap.size (some ⟨b, off, fz⟩) (some ⟨GB, 0, none⟩) (some ⟨b, off, fz⟩) 0 cap 1 1 0 cap [] [(t, [g0, g1, g2, g3, g4])] [] _ x0 x1 x2 (RS.nil _ _) (HTT.out.below hS1) (RS.nil _ _) (fun h => by cases h) (fun h => by cases h) (fun h => by cases h) (by omega)).mono ?_
    rintro e9 wn ⟨v9, rfl, ho9, hb⟩
    have HO9 := hide ho9
    clear ho9
    refine hK.out _ _ ?hs79 (fun hS2 => ?_)
    case hs79 => exact bel_next hS1 hb
    clear hK K hb
    try simp only [Act.put, List.setIfInBounds_toArray, List.set_cons_zero, List.set_cons_succ]
    refine takeInH 9 6 ?v80 rfl rfl (by kernel_rfl) (by kernel_rfl) (by kernel_rfl) (fun _ _ _ h => h) (by kernel_rfl) hS2 ?hy80 ?_
    case hy80 => (intro W hW; clear hW; go_simp; try rfl)
    simp only [Act.put, List.setIfInBounds_toArray, List.set_cons_zero, List.set_cons_succ]
    refine wpAnyH_done (by kernel_rfl) ?_ _
    go_wp2
    go_ret
    refine ⟨_, rfl, ?_, bel_next HB.out hS2⟩
    rw [HRES.out]
    exact OwnR.mono HO9.out (Nat.le_trans HB.out.size BW.size)
theorem with_any (a : Option Addr) (n cap : Nat) (s : List Ac) (t : ByteArray) (g : List Int) (hg : g.length = 5) (w : World) (hA : AC w a n s) (hC : CP a n cap) (hS : SrtG kA s) (hn : n ≤ 4000) :
    Calls Try.prog 28 #[.slice a n cap, .string t, vHav g] w fun e w' => ∃ p c, e = .returned (.slice p (setA s t g).length c) ∧ AC w' p (setA s t g).length (setA s t g) ∧ CP p (setA s t g).length c ∧ Below w.heap.size w w' := by
  have hl := hA.1.1
  have hfv := hA.2
  match g, hg with
  | [g0, g1, g2, g3, g4], hg =>
  have key : Calls Try.prog 28 #[.slice a n cap, .string t, vHav [g0, g1, g2, g3, g4]] w fun e w' => ∃ v, e = .returned v ∧ OwnR encA 6 52 w.heap.size w' v (setA s t [g0, g1, g2, g3, g4]) ∧ Below w.heap.size w w' := by
    rcases Nat.eq_zero_or_pos n with h0 | hp
    · subst h0
      obtain rfl : s = [] := List.eq_nil_of_length_eq_zero hl
      rcases a with _ | ⟨b, off, fz⟩
      · obtain rfl := hC.2.2 rfl
        exact with_none t g0 g1 g2 g3 g4 w
      · exact with_zero b off cap fz t g0 g1 g2 g3 g4 w hC.2.1
    · obtain ⟨b, off, rfl⟩ := hA.addr hp
      exact with_some b off n cap s t g0 g1 g2 g3 g4 w hA hC.1 hC.2.1 hS hn
  refine key.mono ?_
  rintro e w' ⟨v, rfl, ho, hb⟩
  obtain ⟨p, c, rfl, q1, q2⟩ := ho.open encA_len
  exact ⟨p, c, rfl, ⟨q1, setA_fv hfv t hg⟩, q2, hb⟩
set_option maxHeartbeats 1000000 in
theorem fit_any (a : Option Addr) (n cap : Nat) (s : List Ac) (w : World) (hA : AC w a n s) : Calls Try.prog 27 #[.slice a n cap] w fun e w' => e = .returned (if mayA s = true then .tuple #[.slice a n cap, .int .i64 0] else .tuple #[.slice none 0 0, .int .i64 6]) ∧ Below w.heap.size w w' := by
  have HM := hide (Check11_any a n cap s w hA)
  clear hA
  rcases hma : mayA s with _ | _
  · have HE := hide (chk11_no hma)
    clear hma
    go_enter Try.func27, Try.ntmps27
    go_wp2_with (go_at_call 13; refine HM.out.mono ?_; rintro e w1 ⟨rfl, hb⟩; rw [HE.out]; have HB := hide hb; clear hb)
    go_ret2
    exact ⟨rfl, HB.out⟩
  · have HE := hide (chk11_yes hma)
    clear hma
    go_enter Try.func27, Try.ntmps27
    go_wp2_with (go_at_call 13; refine HM.out.mono ?_; rintro e w1 ⟨rfl, hb⟩; rw [HE.out]; have HB := hide hb; clear hb)
    go_ret2
    exact ⟨rfl, HB.out⟩
end Go.Proofs.Ytbihgcmnllajpaa
