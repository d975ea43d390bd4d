/- A tally but that a key has more (layer 10). -/
import Derived.Test.YtmleajocdooihaaGTc
import Derived.Test.YtmleajocdooihaaGTa
namespace Go.Proofs.Ytmleajocdooihaa
open Go.RowKit Go.Lib
set_option linter.unusedVariables false
theorem TS.head {w : World} {a : Option Addr} {n : Nat} {s : List Ce} (h : TS w a n s) (i : Nat) (hi : i ≤ n) : TS w a i (s.take i) := by
  obtain ⟨h1, h2, h4⟩ := h
  refine ⟨by rw [List.length_take]; omega, by omega, ?_⟩
  rcases h4 with h0 | ⟨b, off, ha, hc⟩
  · exact .inl (by omega)
  · refine .inr ⟨b, off, ha, fun j x hj => ?_⟩
    rw [List.getElem?_take] at hj
    split at hj
    · exact hc j x hj
    · cases hj
theorem TS.rest {w : World} {b off n cap : Nat} {s : List Ce} (h : TS w (some ⟨b, off, none⟩) n s) (i : Nat) (hi : i ≤ n) (hc : n ≤ cap) : TS w (if cap = i then some ⟨b, off, none⟩ else some ⟨b, off + i * 2, none⟩) (n - i) (s.drop i) := by
  rcases Nat.lt_or_ge i n with hlt | hge
  · rw [if_neg (by omega)]
    exact RS.mid (k := 2) h i hi
  · have e : n - i = 0 := by omega
    rw [e, List.drop_eq_nil_of_le (by rw [h.1]; exact hge)]
    exact TS.nil _ _
set_option maxHeartbeats 4000000 in
theorem raised_some (b off n cap : Nat) (s : List Ce) (t : ByteArray) (m : Int) (w : World) (hA : TS w (some ⟨b, off, none⟩) n s) (hC : n ≤ cap) (hcm : cap ≤ maxLen) (h1 : mayT s = true) (hm1 : -1000 ≤ m) (hm2 : m ≤ 1000) (hn : n ≤ 4000) :
    Calls Try.prog 19 #[.slice (some ⟨b, off, none⟩) n cap, .string t, .int .i64 m] w fun e w' => ∃ v, e = .returned v ∧ OwnR encC 2 36 w.heap.size w' v (addT s t m) ∧ Below w.heap.size w w' := by
  have HLEN := hide hA.1
  have hS := (mayG_iff.1 h1).2.1
  have HS0 := hide hS
  have HMAY := hide h1
  have HPL := hide (placeT_any (some ⟨b, off, none⟩) n cap s t w hA hS hn)
  have HV := hide hA
  unfold maxLen at hcm
  clear hA hS h1
  go_enter Try.func19, Try.ntmps19
  go_upto_region 2 with (go_at_call 21; refine HPL.out.mono ?_; rintro e w1 ⟨⟨i, rfl, hp⟩, hb⟩)
  have HP := hide hp
  have HB := hide hb
  replace HV := hide (HV.out.below hb)
  have hin : i ≤ n := by have := hp.1; rw [HLEN.out] at this; exact this
  have hi0 : (0 : Int) ≤ (i : Int) := by omega
  have hin2 : (i : Int) ≤ (n : Int) := by omega
  have hin3 : (i : Int) ≤ (cap : Int) := by omega
  clear hp hb HPL
  rcases ht : thereG kC s t i with _ | _
  · have HADD : Hid (addT s t m = s.take i ++ (celT t m).toList ++ s.drop i) := by
      have q := placeG_not HS0.out HP.out (thereG_no ht) (celT t m)
      unfold Hid addT setT numT
      rw [q.1]
      simp only [Int.zero_add]
      exact q.2
    clear HS0 HMAY HP ht
    obtain ⟨R, hR⟩ : ∃ R : Option Addr, (if cap = i then (some ⟨b, off, none⟩ : Option Addr) else some ⟨b, off + i * 2, none⟩) = R := ⟨_, rfl⟩
    have HRT : Hid (TS w1 R (n - i) (s.drop i)) := by unfold Hid; rw [← hR]; exact HV.out.rest i (by omega) (by omega)
    have HRN : Hid (R = none → cap - i = 0) := by intro h; rw [← hR] at h; split at h <;> cases h
    by_cases hz : m = 0
    · have HRES : Hid (addT s t m = s.take i ++ [] ++ s.drop i) := by unfold Hid; rw [HADD.out, celT, if_pos hz]; rfl
      have HTT : Hid (TS w1 none 0 []) := TS.nil _ _
      have hz2 : ((m : Int) != 0) = false := by simpa using hz
      go_upto_region 9 with fail
      generalize hww : w1 = u at *
      clear hww
      refine wp_region_held_drew (S := fun W => Below u.heap.size u W) (by kernel_rfl) ((Below.refl _ u).drew) (fun hS0 => ?_)
      refine takeInH 0 34 ?v1 rfl rfl (by kernel_rfl) (by kernel_rfl) (by kernel_rfl) (fun _ _ _ h => h) (by kernel_rfl) hS0 ?hy1 ?_
      case hy1 => (intro W hW; clear hW; go_simp; try rfl)
      simp only [Act.put, List.setIfInBounds_toArray, List.set_cons_zero, List.set_cons_succ]
      refine takeInH 1 35 ?v2 rfl rfl (by kernel_rfl) (by kernel_rfl) (by kernel_rfl) (fun _ _ _ h => h) (by kernel_rfl) hS0 ?hy2 ?_
      case hy2 => (intro W hW; clear hW; go_simp; try rfl)
      simp only [Act.put, List.setIfInBounds_toArray, List.set_cons_zero, List.set_cons_succ]
      refine takeInH 2 36 ?v3 rfl rfl (by kernel_rfl) (by kernel_rfl) (by kernel_rfl) (fun _ _ _ h => h) (by kernel_rfl) hS0 ?hy3 ?_
      case hy3 => (intro W hW; clear hW; go_simp; try rfl)
      simp only [Act.put, List.setIfInBounds_toArray, List.set_cons_zero, List.set_cons_succ]
      refine takeInH 3 37 ?v4 rfl rfl (by kernel_rfl) (by kernel_rfl) (by kernel_rfl) (fun _ _ _ h => h) (by kernel_rfl) hS0 ?hy4 ?_
      case hy4 => (intro W hW; clear hW; go_simp; try rfl)
      simp only [Act.put, List.setIfInBounds_toArray, List.set_cons_zero, List.set_cons_succ]
      refine takeInH 4 38 ?v5 rfl rfl (by kernel_rfl) (by kernel_rfl) (by kernel_rfl) (fun _ _ _ h => h) (by kernel_rfl) hS0 ?hy5 ?_
      case hy5 => (intro W hW; clear hW; go_simp; try rfl)
      simp only [Act.put, List.setIfInBounds_toArray, List.set_cons_zero, List.set_cons_succ]
      refine takeInH 5 39 ?v6 rfl rfl (by kernel_rfl) (by kernel_rfl) (by kernel_rfl) (fun _ _ _ h => h) (by kernel_rfl) hS0 ?hy6 ?_
      case hy6 => (intro W hW; clear hW; go_simp; try rfl)
      simp only [Act.put, List.setIfInBounds_toArray, List.set_cons_zero, List.set_cons_succ]
      refine takeInH 6 40 ?v7 rfl rfl (by kernel_rfl) (by kernel_rfl) (by kernel_rfl) (fun _ _ _ h => h) (by kernel_rfl) hS0 ?hy7 ?_
      case hy7 => (intro W hW; clear hW; go_simp; try rfl)
      simp only [Act.put, List.setIfInBounds_toArray, List.set_cons_zero, List.set_cons_succ]
      refine wpAnyH_ready (rs := [7]) (by kernel_rfl) (by simp) ?_
      refine AllReadyH.cons rfl (fun K hK => ?_) AllReadyH.nil
      go_simp
      have BW : Below u.heap.size u (u.alloc (.cells #[.slice (some ⟨b, off, none⟩) i cap, .slice none 0 0, .slice R (n - i) (cap - i)] 22)).drew := (bel1 u (.cells #[.slice (some ⟨b, off, none⟩) i cap, .slice none 0 0, .slice R (n - i) (cap - i)] 22)).drew
      have x0 : (u.alloc (.cells #[.slice (some ⟨b, off, none⟩) i cap, .slice none 0 0, .slice R (n - i) (cap - i)] 22)).drew.cell? ⟨u.heap.size, 0, none⟩ = some (.slice (some ⟨b, off, none⟩) i cap) := cell_new u #[.slice (some ⟨b, off, none⟩) i cap, .slice none 0 0, .slice R (n - i) (cap - i)] 22 _ rfl 0 _ rfl
      have x1 : (u.alloc (.cells #[.slice (some ⟨b, off, none⟩) i cap, .slice none 0 0, .slice R (n - i) (cap - i)] 22)).drew.cell? ⟨u.heap.size, 1, none⟩ = some (.slice none 0 0) := cell_new u #[.slice (some ⟨b, off, none⟩) i cap, .slice none 0 0, .slice R (n - i) (cap - i)] 22 _ rfl 1 _ rfl
      have x2 : (u.alloc (.cells #[.slice (some ⟨b, off, none⟩) i cap, .slice none 0 0, .slice R (n - i) (cap - i)] 22)).drew.cell? ⟨u.heap.size, 2, none⟩ = some (.slice R (n - i) (cap - i)) := cell_new u #[.slice (some ⟨b, off, none⟩) i cap, .slice none 0 0, .slice R (n - i) (cap - i)] 22 _ rfl 2 _ rfl
      generalize (u.alloc (.cells #[.slice (some ⟨b, off, none⟩) i cap, .slice none 0 0, .slice R (n - i) (cap - i)] 22)).drew = wb at BW x0 x1 x2 ⊢
      refine hK.out _ _ ?hs8 (fun hS1 => ?_)
      case hs8 => exact BW
      clear hK K
      try simp only [Act.put, List.setIfInBounds_toArray, List.set_cons_zero, List.set_cons_succ]
      refine wpAnyH_ready (rs := [8]) (by kernel_rfl) (by simp) ?_
      refine AllReadyH.cons rfl (fun K hK => ?_) AllReadyH.nil
      go_simp
      refine (concatT_any u.heap.size (some ⟨b, off, none⟩) none R i cap 0 0 (n - i) (cap - i) (s.take i) [] (s.drop i) _ x0 x1 x2 ((HV.out.below hS1).head i (by omega)) (HTT.out.below hS1) (HRT.out.below hS1) (fun h => by cases h) (fun _ => rfl) HRN.out (by omega)).mono ?_
      rintro e9 wn ⟨v9, rfl, ho9, hb⟩
      have HO9 := hide ho9
      clear ho9
      refine hK.out _ _ ?hs9 (fun hS2 => ?_)
      case hs9 => exact bel_next hS1 hb
      clear hK K hb
      try simp only [Act.put, List.setIfInBounds_toArray, List.set_cons_zero, List.set_cons_succ]
      refine takeInH 9 6 ?v10 rfl rfl (by kernel_rfl) (by kernel_rfl) (by kernel_rfl) (fun _ _ _ h => h) (by kernel_rfl) hS2 ?hy10 ?_
      case hy10 => (intro W hW; clear hW; go_simp; try rfl)
      simp only [Act.put, List.setIfInBounds_toArray, List.set_cons_zero, List.set_cons_succ]
      refine wpAnyH_done (by kernel_rfl) ?_ _
      go_wp2
      go_ret
      refine ⟨_, rfl, ?_, bel_next HB.out hS2⟩
      rw [HRES.out]
      exact OwnR.mono HO9.out (Nat.le_trans HB.out.size BW.size)
    · have HRES : Hid (addT s t m = s.take i ++ [(t, m)] ++ s.drop i) := by unfold Hid; rw [HADD.out, celT, if_neg hz]; rfl
      have hz2 : ((m : Int) != 0) = true := by simpa using hz
      have BN := hide (bel1 w1 (.cells #[.string t, .int .i64 (m)] 36))
      have HTT : Hid (TS (w1.alloc (.cells #[.string t, .int .i64 (m)] 36)) (some ⟨w1.heap.size, 0, none⟩) 1 [(t, m)]) := RS.new encC_len w1 _ rfl [(t, m)] _ (by simp [encC]) _ _ 1 rfl (by decide)
      go_upto_region 9 with fail
      replace HV := hide (HV.out.below BN.out)
      replace HRT := hide (HRT.out.below BN.out)
      replace HB := hide (bel_next HB.out BN.out)
      clear BN
      skip
      generalize w1.heap.size = GB at *
      generalize hww : w1.alloc (.cells #[.string t, .int .i64 (m)] 36) = u at *
      clear hww
      refine wp_region_held_drew (S := fun W => Below u.heap.size u W) (by kernel_rfl) ((Below.refl _ u).drew) (fun hS0 => ?_)
      refine takeInH 0 34 ?v11 rfl rfl (by kernel_rfl) (by kernel_rfl) (by kernel_rfl) (fun _ _ _ h => h) (by kernel_rfl) hS0 ?hy11 ?_
      case hy11 => (intro W hW; clear hW; go_simp; try rfl)
      simp only [Act.put, List.setIfInBounds_toArray, List.set_cons_zero, List.set_cons_succ]
      refine takeInH 1 35 ?v12 rfl rfl (by kernel_rfl) (by kernel_rfl) (by kernel_rfl) (fun _ _ _ h => h) (by kernel_rfl) hS0 ?hy12 ?_
      case hy12 => (intro W hW; clear hW; go_simp; try rfl)
      simp only [Act.put, List.setIfInBounds_toArray, List.set_cons_zero, List.set_cons_succ]
      refine takeInH 2 36 ?v13 rfl rfl (by kernel_rfl) (by kernel_rfl) (by kernel_rfl) (fun _ _ _ h => h) (by kernel_rfl) hS0 ?hy13 ?_
      case hy13 => (intro W hW; clear hW; go_simp; try rfl)
      simp only [Act.put, List.setIfInBounds_toArray, List.set_cons_zero, List.set_cons_succ]
      refine takeInH 3 37 ?v14 rfl rfl (by kernel_rfl) (by kernel_rfl) (by kernel_rfl) (fun _ _ _ h => h) (by kernel_rfl) hS0 ?hy14 ?_
      case hy14 => (intro W hW; clear hW; go_simp; try rfl)
      simp only [Act.put, List.setIfInBounds_toArray, List.set_cons_zero, List.set_cons_succ]
      refine takeInH 4 38 ?v15 rfl rfl (by kernel_rfl) (by kernel_rfl) (by kernel_rfl) (fun _ _ _ h => h) (by kernel_rfl) hS0 ?hy15 ?_
      case hy15 => (intro W hW; clear hW; go_simp; try rfl)
      simp only [Act.put, List.setIfInBounds_toArray, List.set_cons_zero, List.set_cons_succ]
      refine takeInH 5 39 ?v16 rfl rfl (by kernel_rfl) (by kernel_rfl) (by kernel_rfl) (fun _ _ _ h => h) (by kernel_rfl) hS0 ?hy16 ?_
      case hy16 => (intro W hW; clear hW; go_simp; try rfl)
      simp only [Act.put, List.setIfInBounds_toArray, List.set_cons_zero, List.set_cons_succ]
      refine takeInH 6 40 ?v17 rfl rfl (by kernel_rfl) (by kernel_rfl) (by kernel_rfl) (fun _ _ _ h => h) (by kernel_rfl) hS0 ?hy17 ?_
      case hy17 => (intro W hW; clear hW; go_simp; try rfl)
      simp only [Act.put, List.setIfInBounds_toArray, List.set_cons_zero, List.set_cons_succ]
      refine wpAnyH_ready (rs := [7]) (by kernel_rfl) (by simp) ?_
      refine AllReadyH.cons rfl (fun K hK => ?_) AllReadyH.nil
      go_simp
      have BW : Below u.heap.size u (u.alloc (.cells #[.slice (some ⟨b, off, none⟩) i cap, .slice (some ⟨GB, 0, none⟩) 1 1, .slice R (n - i) (cap - i)] 22)).drew := (bel1 u (.cells #[.slice (some ⟨b, off, none⟩) i cap, .slice (some ⟨GB, 0, none⟩) 1 1, .slice R (n - i) (cap - i)] 22)).drew
      have x0 : (u.alloc (.cells #[.slice (some ⟨b, off, none⟩) i cap, .slice (some ⟨GB, 0, none⟩) 1 1, .slice R (n - i) (cap - i)] 22)).drew.cell? ⟨u.heap.size, 0, none⟩ = some (.slice (some ⟨b, off, none⟩) i cap) := cell_new u #[.slice (some ⟨b, off, none⟩) i cap, .slice (some ⟨GB, 0, none⟩) 1 1, .slice R (n - i) (cap - i)] 22 _ rfl 0 _ rfl
      have x1 : (u.alloc (.cells #[.slice (some ⟨b, off, none⟩) i cap, .slice (some ⟨GB, 0, none⟩) 1 1, .slice R (n - i) (cap - i)] 22)).drew.cell? ⟨u.heap.size, 1, none⟩ = some (.slice (some ⟨GB, 0, none⟩) 1 1) := cell_new u #[.slice (some ⟨b, off, none⟩) i cap, .slice (some ⟨GB, 0, none⟩) 1 1, .slice R (n - i) (cap - i)] 22 _ rfl 1 _ rfl
      have x2 : (u.alloc (.cells #[.slice (some ⟨b, off, none⟩) i cap, .slice (some ⟨GB, 0, none⟩) 1 1, .slice R (n - i) (cap - i)] 22)).drew.cell? ⟨u.heap.size, 2, none⟩ = some (.slice R (n - i) (cap - i)) := cell_new u #[.slice (some ⟨b, off, none⟩) i cap, .slice (some ⟨GB, 0, none⟩) 1 1, .slice R (n - i) (cap - i)] 22 _ rfl 2 _ rfl
      generalize (u.alloc (.cells #[.slice (some ⟨b, off, none⟩) i cap, .slice (some ⟨GB, 0, none⟩) 1 1, .slice R (n - i) (cap - i)] 22)).drew = wb at BW x0 x1 x2 ⊢
      refine hK.out _ _ ?hs18 (fun hS1 => ?_)
      case hs18 => exact BW
      clear hK K
      try simp only [Act.put, List.setIfInBounds_toArray, List.set_cons_zero, List.set_cons_succ]
      refine wpAnyH_ready (rs := [8]) (by kernel_rfl) (by simp) ?_
      refine AllReadyH.cons rfl (fun K hK => ?_) AllReadyH.nil
      go_simp
      refine (concatT_any u.heap.size (some ⟨b, off, none⟩) (some ⟨GB, 0, none⟩) R i cap 1 1 (n - i) (cap - i) (s.take i) [(t, m)] (s.drop i) _ x0 x1 x2 ((HV.out.below hS1).head i (by omega)) (HTT.out.below hS1) (HRT.out.below hS1) (fun h => by cases h) (fun h => by cases h) HRN.out (by omega)).mono ?_
      rintro e9 wn ⟨v9, rfl, ho9, hb⟩
      have HO9 := hide ho9
      clear ho9
      refine hK.out _ _ ?hs19 (fun hS2 => ?_)
      case hs19 => exact bel_next hS1 hb
      clear hK K hb
      try simp only [Act.put, List.setIfInBounds_toArray, List.set_cons_zero, List.set_cons_succ]
      refine takeInH 9 6 ?v20 rfl rfl (by kernel_rfl) (by kernel_rfl) (by kernel_rfl) (fun _ _ _ h => h) (by kernel_rfl) hS2 ?hy20 ?_
      case hy20 => (intro W hW; clear hW; go_simp; try rfl)
      simp only [Act.put, List.setIfInBounds_toArray, List.set_cons_zero, List.set_cons_succ]
      refine wpAnyH_done (by kernel_rfl) ?_ _
      go_wp2
      go_ret
      refine ⟨_, rfl, ?_, bel_next HB.out hS2⟩
      rw [HRES.out]
      exact OwnR.mono HO9.out (Nat.le_trans HB.out.size BW.size)
  · obtain ⟨x, hx, he⟩ := thereG_yes ht
    obtain ⟨k, z⟩ := x
    have he2 : k = t := he
    have hzb := (mayCe_iff.1 ((mayG_iff.1 HMAY.out).1 _ (List.mem_of_getElem? hx))).2.2
    unfold big40 at hzb
    simp only at hzb
    have HADD : Hid (addT s t m = s.take i ++ (celT t (m + z)).toList ++ s.drop (i + 1)) := by
      have q := placeG_there HS0.out HP.out hx he (celT t (m + z))
      unfold Hid addT setT numT
      rw [q.1]
      simp only
      rw [Int.add_comm z m]
      exact q.2
    have hlt : i < n := by rw [← HLEN.out]; exact (List.getElem?_eq_some_iff.1 hx).1
    obtain ⟨k', z', hx', c0, c1⟩ := HV.out.at i hlt
    rw [hx] at hx'
    cases hx'
    clear HS0 HMAY HP ht he he2 hx c0
    have hw : IntKind.i64.wrap (m + z) = m + z := by rw [IntKind.wrap_i64]; omega
    have hwi : IntKind.i64.wrap ((i : Int) + 1) = (i : Int) + 1 := by rw [IntKind.wrap_i64]; omega
    have hi1 : (i : Int) < (n : Int) := by omega
    have hi2 : (i : Int) + 1 ≤ (n : Int) := by omega
    have hi3 : (0 : Int) ≤ (i : Int) + 1 := by omega
    have hi4 : ((i : Int) + 1).toNat = i + 1 := by omega
    have hi5 : (i : Int) + 1 ≤ (cap : Int) := by omega
    obtain ⟨R, hR⟩ : ∃ R : Option Addr, (if cap = (i + 1) then (some ⟨b, off, none⟩ : Option Addr) else some ⟨b, off + (i + 1) * 2, none⟩) = R := ⟨_, rfl⟩
    have HRT : Hid (TS w1 R (n - (i + 1)) (s.drop (i + 1))) := by unfold Hid; rw [← hR]; exact HV.out.rest (i + 1) (by omega) (by omega)
    have HRN : Hid (R = none → cap - (i + 1) = 0) := by intro h; rw [← hR] at h; split at h <;> cases h
    by_cases hz : m + z = 0
    · have HRES : Hid (addT s t m = s.take i ++ [] ++ s.drop (i + 1)) := by unfold Hid; rw [HADD.out, celT, if_pos hz]; rfl
      have HTT : Hid (TS w1 none 0 []) := TS.nil _ _
      have hz2 : ((m + z : Int) != 0) = false := by simpa using hz
      go_upto_region 9 with fail
      generalize hww : w1 = u at *
      clear hww
      refine wp_region_held_drew (S := fun W => Below u.heap.size u W) (by kernel_rfl) ((Below.refl _ u).drew) (fun hS0 => ?_)
      refine takeInH 0 34 ?v21 rfl rfl (by kernel_rfl) (by kernel_rfl) (by kernel_rfl) (fun _ _ _ h => h) (by kernel_rfl) hS0 ?hy21 ?_
      case hy21 => (intro W hW; clear hW; go_simp; try rfl)
      simp only [Act.put, List.setIfInBounds_toArray, List.set_cons_zero, List.set_cons_succ]
      refine takeInH 1 35 ?v22 rfl rfl (by kernel_rfl) (by kernel_rfl) (by kernel_rfl) (fun _ _ _ h => h) (by kernel_rfl) hS0 ?hy22 ?_
      case hy22 => (intro W hW; clear hW; go_simp; try rfl)
      simp only [Act.put, List.setIfInBounds_toArray, List.set_cons_zero, List.set_cons_succ]
      refine takeInH 2 36 ?v23 rfl rfl (by kernel_rfl) (by kernel_rfl) (by kernel_rfl) (fun _ _ _ h => h) (by kernel_rfl) hS0 ?hy23 ?_
      case hy23 => (intro W hW; clear hW; go_simp; try rfl)
      simp only [Act.put, List.setIfInBounds_toArray, List.set_cons_zero, List.set_cons_succ]
      refine takeInH 3 37 ?v24 rfl rfl (by kernel_rfl) (by kernel_rfl) (by kernel_rfl) (fun _ _ _ h => h) (by kernel_rfl) hS0 ?hy24 ?_
      case hy24 => (intro W hW; clear hW; go_simp; try rfl)
      simp only [Act.put, List.setIfInBounds_toArray, List.set_cons_zero, List.set_cons_succ]
      refine takeInH 4 38 ?v25 rfl rfl (by kernel_rfl) (by kernel_rfl) (by kernel_rfl) (fun _ _ _ h => h) (by kernel_rfl) hS0 ?hy25 ?_
      case hy25 => (intro W hW; clear hW; go_simp; try rfl)
      simp only [Act.put, List.setIfInBounds_toArray, List.set_cons_zero, List.set_cons_succ]
      refine takeInH 5 39 ?v26 rfl rfl (by kernel_rfl) (by kernel_rfl) (by kernel_rfl) (fun _ _ _ h => h) (by kernel_rfl) hS0 ?hy26 ?_
      case hy26 => (intro W hW; clear hW; go_simp; try rfl)
      simp only [Act.put, List.setIfInBounds_toArray, List.set_cons_zero, List.set_cons_succ]
      refine takeInH 6 40 ?v27 rfl rfl (by kernel_rfl) (by kernel_rfl) (by kernel_rfl) (fun _ _ _ h => h) (by kernel_rfl) hS0 ?hy27 ?_
      case hy27 => (intro W hW; clear hW; go_simp; try rfl)
      simp only [Act.put, List.setIfInBounds_toArray, List.set_cons_zero, List.set_cons_succ]
      refine wpAnyH_ready (rs := [7]) (by kernel_rfl) (by simp) ?_
      refine AllReadyH.cons rfl (fun K hK => ?_) AllReadyH.nil
      go_simp
      have BW : Below u.heap.size u (u.alloc (.cells #[.slice (some ⟨b, off, none⟩) i cap, .slice none 0 0, .slice R (n - (i + 1)) (cap - (i + 1))] 22)).drew := (bel1 u (.cells #[.slice (some ⟨b, off, none⟩) i cap, .slice none 0 0, .slice R (n - (i + 1)) (cap - (i + 1))] 22)).drew
      have x0 : (u.alloc (.cells #[.slice (some ⟨b, off, none⟩) i cap, .slice none 0 0, .slice R (n - (i + 1)) (cap - (i + 1))] 22)).drew.cell? ⟨u.heap.size, 0, none⟩ = some (.slice (some ⟨b, off, none⟩) i cap) := cell_new u #[.slice (some ⟨b, off, none⟩) i cap, .slice none 0 0, .slice R (n - (i + 1)) (cap - (i + 1))] 22 _ rfl 0 _ rfl
      have x1 : (u.alloc (.cells #[.slice (some ⟨b, off, none⟩) i cap, .slice none 0 0, .slice R (n - (i + 1)) (cap - (i + 1))] 22)).drew.cell? ⟨u.heap.size, 1, none⟩ = some (.slice none 0 0) := cell_new u #[.slice (some ⟨b, off, none⟩) i cap, .slice none 0 0, .slice R (n - (i + 1)) (cap - (i + 1))] 22 _ rfl 1 _ rfl
      have x2 : (u.alloc (.cells #[.slice (some ⟨b, off, none⟩) i cap, .slice none 0 0, .slice R (n - (i + 1)) (cap - (i + 1))] 22)).drew.cell? ⟨u.heap.size, 2, none⟩ = some (.slice R (n - (i + 1)) (cap - (i + 1))) := cell_new u #[.slice (some ⟨b, off, none⟩) i cap, .slice none 0 0, .slice R (n - (i + 1)) (cap - (i + 1))] 22 _ rfl 2 _ rfl
      generalize (u.alloc (.cells #[.slice (some ⟨b, off, none⟩) i cap, .slice none 0 0, .slice R (n - (i + 1)) (cap - (i + 1))] 22)).drew = wb at BW x0 x1 x2 ⊢
      refine hK.out _ _ ?hs28 (fun hS1 => ?_)
      case hs28 => exact BW
      clear hK K
      try simp only [Act.put, List.setIfInBounds_toArray, List.set_cons_zero, List.set_cons_succ]
      refine wpAnyH_ready (rs := [8]) (by kernel_rfl) (by simp) ?_
      refine AllReadyH.cons rfl (fun K hK => ?_) AllReadyH.nil
      go_simp
      refine (concatT_any u.heap.size (some ⟨b, off, none⟩) none R i cap 0 0 (n - (i + 1)) (cap - (i + 1)) (s.take i) [] (s.drop (i + 1)) _ x0 x1 x2 ((HV.out.below hS1).head i (by omega)) (HTT.out.below hS1) (HRT.out.below hS1) (fun h => by cases h) (fun _ => rfl) HRN.out (by omega)).mono ?_
      rintro e9 wn ⟨v9, rfl, ho9, hb⟩
      have HO9 := hide ho9
      clear ho9
      refine hK.out _ _ ?hs29 (fun hS2 => ?_)
      case hs29 => exact bel_next hS1 hb
      clear hK K hb
      try simp only [Act.put, List.setIfInBounds_toArray, List.set_cons_zero, List.set_cons_succ]
      refine takeInH 9 6 ?v30 rfl rfl (by kernel_rfl) (by kernel_rfl) (by kernel_rfl) (fun _ _ _ h => h) (by kernel_rfl) hS2 ?hy30 ?_
      case hy30 => (intro W hW; clear hW; go_simp; try rfl)
      simp only [Act.put, List.setIfInBounds_toArray, List.set_cons_zero, List.set_cons_succ]
      refine wpAnyH_done (by kernel_rfl) ?_ _
      go_wp2
      go_ret
      refine ⟨_, rfl, ?_, bel_next HB.out hS2⟩
      rw [HRES.out]
      exact OwnR.mono HO9.out (Nat.le_trans HB.out.size BW.size)
    · have HRES : Hid (addT s t m = s.take i ++ [(t, m + z)] ++ s.drop (i + 1)) := by unfold Hid; rw [HADD.out, celT, if_neg hz]; rfl
      have hz2 : ((m + z : Int) != 0) = true := by simpa using hz
      have BN := hide (bel1 w1 (.cells #[.string t, .int .i64 (m + z)] 36))
      have HTT : Hid (TS (w1.alloc (.cells #[.string t, .int .i64 (m + z)] 36)) (some ⟨w1.heap.size, 0, none⟩) 1 [(t, m + z)]) := RS.new encC_len w1 _ rfl [(t, m + z)] _ (by simp [encC]) _ _ 1 rfl (by decide)
      go_upto_region 9 with fail
      replace HV := hide (HV.out.below BN.out)
      replace HRT := hide (HRT.out.below BN.out)
      replace HB := hide (bel_next HB.out BN.out)
      clear BN
      clear c1
      generalize w1.heap.size = GB at *
      generalize hww : w1.alloc (.cells #[.string t, .int .i64 (m + z)] 36) = u at *
      clear hww
      refine wp_region_held_drew (S := fun W => Below u.heap.size u W) (by kernel_rfl) ((Below.refl _ u).drew) (fun hS0 => ?_)
      refine takeInH 0 34 ?v31 rfl rfl (by kernel_rfl) (by kernel_rfl) (by kernel_rfl) (fun _ _ _ h => h) (by kernel_rfl) hS0 ?hy31 ?_
      case hy31 => (intro W hW; clear hW; go_simp; try rfl)
      simp only [Act.put, List.setIfInBounds_toArray, List.set_cons_zero, List.set_cons_succ]
      refine takeInH 1 35 ?v32 rfl rfl (by kernel_rfl) (by kernel_rfl) (by kernel_rfl) (fun _ _ _ h => h) (by kernel_rfl) hS0 ?hy32 ?_
      case hy32 => (intro W hW; clear hW; go_simp; try rfl)
      simp only [Act.put, List.setIfInBounds_toArray, List.set_cons_zero, List.set_cons_succ]
      refine takeInH 2 36 ?v33 rfl rfl (by kernel_rfl) (by kernel_rfl) (by kernel_rfl) (fun _ _ _ h => h) (by kernel_rfl) hS0 ?hy33 ?_
      case hy33 => (intro W hW; clear hW; go_simp; try rfl)
      simp only [Act.put, List.setIfInBounds_toArray, List.set_cons_zero, List.set_cons_succ]
      refine takeInH 3 37 ?v34 rfl rfl (by kernel_rfl) (by kernel_rfl) (by kernel_rfl) (fun _ _ _ h => h) (by kernel_rfl) hS0 ?hy34 ?_
      case hy34 => (intro W hW; clear hW; go_simp; try rfl)
      simp only [Act.put, List.setIfInBounds_toArray, List.set_cons_zero, List.set_cons_succ]
      refine takeInH 4 38 ?v35 rfl rfl (by kernel_rfl) (by kernel_rfl) (by kernel_rfl) (fun _ _ _ h => h) (by kernel_rfl) hS0 ?hy35 ?_
      case hy35 => (intro W hW; clear hW; go_simp; try rfl)
      simp only [Act.put, List.setIfInBounds_toArray, List.set_cons_zero, List.set_cons_succ]
      refine takeInH 5 39 ?v36 rfl rfl (by kernel_rfl) (by kernel_rfl) (by kernel_rfl) (fun _ _ _ h => h) (by kernel_rfl) hS0 ?hy36 ?_
      case hy36 => (intro W hW; clear hW; go_simp; try rfl)
      simp only [Act.put, List.setIfInBounds_toArray, List.set_cons_zero, List.set_cons_succ]
      refine takeInH 6 40 ?v37 rfl rfl (by kernel_rfl) (by kernel_rfl) (by kernel_rfl) (fun _ _ _ h => h) (by kernel_rfl) hS0 ?hy37 ?_
      case hy37 => (intro W hW; clear hW; go_simp; try rfl)
      simp only [Act.put, List.setIfInBounds_toArray, List.set_cons_zero, List.set_cons_succ]
      refine wpAnyH_ready (rs := [7]) (by kernel_rfl) (by simp) ?_
      refine AllReadyH.cons rfl (fun K hK => ?_) AllReadyH.nil
      go_simp
      have BW : Below u.heap.size u (u.alloc (.cells #[.slice (some ⟨b, off, none⟩) i cap, .slice (some ⟨GB, 0, none⟩) 1 1, .slice R (n - (i + 1)) (cap - (i + 1))] 22)).drew := (bel1 u (.cells #[.slice (some ⟨b, off, none⟩) i cap, .slice (some ⟨GB, 0, none⟩) 1 1, .slice R (n - (i + 1)) (cap - (i + 1))] 22)).drew
      have x0 : (u.alloc (.cells #[.slice (some ⟨b, off, none⟩) i cap, .slice (some ⟨GB, 0, none⟩) 1 1, .slice R (n - (i + 1)) (cap - (i + 1))] 22)).drew.cell? ⟨u.heap.size, 0, none⟩ = some (.slice (some ⟨b, off, none⟩) i cap) := cell_new u #[.slice (some ⟨b, off, none⟩) i cap, .slice (some ⟨GB, 0, none⟩) 1 1, .slice R (n - (i + 1)) (cap - (i + 1))] 22 _ rfl 0 _ rfl
      have x1 : (u.alloc (.cells #[.slice (some ⟨b, off, none⟩) i cap, .slice (some ⟨GB, 0, none⟩) 1 1, .slice R (n - (i + 1)) (cap - (i + 1))] 22)).drew.cell? ⟨u.heap.size, 1, none⟩ = some (.slice (some ⟨GB, 0, none⟩) 1 1) := cell_new u #[.slice (some ⟨b, off, none⟩) i cap, .slice (some ⟨GB, 0, none⟩) 1 1, .slice R (n - (i + 1)) (cap - (i + 1))] 22 _ rfl 1 _ rfl
      have x2 : (u.alloc (.cells #[.slice (some ⟨b, off, none⟩) i cap, .slice (some ⟨GB, 0, none⟩) 1 1, .slice R (n - (i + 1)) (cap - (i + 1))] 22)).drew.cell? ⟨u.heap.size, 2, none⟩ = some (.slice R (n - (i + 1)) (cap - (i + 1))) := cell_new u #[.slice (some ⟨b, off, none⟩) i cap, .slice (some ⟨GB, 0, none⟩) 1 1, .slice R (n - (i + 1)) (cap - (i + 1))] 22 _ rfl 2 _ rfl
      generalize (u.alloc (.cells #[.slice (some ⟨b, off, none⟩) i cap, .slice (some ⟨GB, 0, none⟩) 1 1, .slice R (n - (i + 1)) (cap - (i + 1))] 22)).drew = wb at BW x0 x1 x2 ⊢
      refine hK.out _ _ ?hs38 (fun hS1 => ?_)
      case hs38 => exact BW
      clear hK K
      try simp only [Act.put, List.setIfInBounds_toArray, List.set_cons_zero, List.set_cons_succ]
      refine wpAnyH_ready (rs := [8]) (by kernel_rfl) (by simp) ?_
      refine AllReadyH.cons rfl (fun K hK => ?_) AllReadyH.nil
      go_simp
      refine (concatT_any u.heap.size (some ⟨b, off, none⟩) (some ⟨GB, 0, none⟩) R i cap 1 1 (n - (i + 1)) (cap - (i + 1)) (s.take i) [(t, (m + z))] (s.drop (i + 1)) _ x0 x1 x2 ((HV.out.below hS1).head i (by omega)) (HTT.out.below hS1) (HRT.out.below hS1) (fun h => by cases h) (fun h => by cases h) HRN.out (by omega)).mono ?_
      rintro e9 wn ⟨v9, rfl, ho9, hb⟩
      have HO9 := hide ho9
      clear ho9
      refine hK.out _ _ ?hs39 (fun hS2 => ?_)
      case hs39 => exact bel_next hS1 hb
      clear hK K hb
      try simp only [Act.put, List.setIfInBounds_toArray, List.set_cons_zero, List.set_cons_succ]
      refine takeInH 9 6 ?v40 rfl rfl (by kernel_rfl) (by kernel_rfl) (by kernel_rfl) (fun _ _ _ h => h) (by kernel_rfl) hS2 ?hy40 ?_
      case hy40 => (intro W hW; clear hW; go_simp; try rfl)
      simp only [Act.put, List.setIfInBounds_toArray, List.set_cons_zero, List.set_cons_succ]
      refine wpAnyH_done (by kernel_rfl) ?_ _
      go_wp2
      go_ret
      refine ⟨_, rfl, ?_, bel_next HB.out hS2⟩
      rw [HRES.out]
      exact OwnR.mono HO9.out (Nat.le_trans HB.out.size BW.size)
set_option maxHeartbeats 4000000 in
theorem raised_none  (t : ByteArray) (m : Int) (w : World)  :
    Calls Try.prog 19 #[.slice none 0 0, .string t, .int .i64 m] w fun e w' => ∃ v, e = .returned v ∧ OwnR encC 2 36 w.heap.size w' v (addT [] t m) ∧ Below w.heap.size w w' := by
  have HPL := hide (placeT_any none 0 0 [] t w (TS.nil _ _) (by simp [SrtG]) (by decide))
  have HADD : Hid (addT [] t m = (celT t m).toList) := by unfold Hid addT setT putG numT getG; simp
  go_enter Try.func19, Try.ntmps19
  go_upto_region 2 with (go_at_call 21; refine HPL.out.mono ?_; rintro e w1 ⟨⟨i, rfl, hp⟩, hb⟩)
  have HB := hide hb
  obtain rfl : i = 0 := by have := hp.1; simpa using this
  clear hp hb HPL
  have ht : thereG kC ([] : List Ce) t 0 = false := rfl
  rw [ht]
  have hc0 : (0 : Int) ≤ (0 : Int) := by omega
  by_cases hz : m = 0
  · have HRES : Hid (addT [] t m = [] ++ [] ++ []) := by unfold Hid; rw [HADD.out, celT, if_pos hz]; rfl
    have HTT : Hid (TS w1 none 0 []) := TS.nil _ _
    have hz2 : ((m : Int) != 0) = false := by simpa using hz
    go_upto_region 9 with fail
    generalize hww : w1 = u at *
    clear hww
    refine wp_region_held_drew (S := fun W => Below u.heap.size u W) (by kernel_rfl) ((Below.refl _ u).drew) (fun hS0 => ?_)
    refine takeInH 0 34 ?v41 rfl rfl (by kernel_rfl) (by kernel_rfl) (by kernel_rfl) (fun _ _ _ h => h) (by kernel_rfl) hS0 ?hy41 ?_
    case hy41 => (intro W hW; clear hW; go_simp; try rfl)
    simp only [Act.put, List.setIfInBounds_toArray, List.set_cons_zero, List.set_cons_succ]
    refine takeInH 1 35 ?v42 rfl rfl (by kernel_rfl) (by kernel_rfl) (by kernel_rfl) (fun _ _ _ h => h) (by kernel_rfl) hS0 ?hy42 ?_
    case hy42 => (intro W hW; clear hW; go_simp; try rfl)
    simp only [Act.put, List.setIfInBounds_toArray, List.set_cons_zero, List.set_cons_succ]
    refine takeInH 2 36 ?v43 rfl rfl (by kernel_rfl) (by kernel_rfl) (by kernel_rfl) (fun _ _ _ h => h) (by kernel_rfl) hS0 ?hy43 ?_
    case hy43 => (intro W hW; clear hW; go_simp; try rfl)
    simp only [Act.put, List.setIfInBounds_toArray, List.set_cons_zero, List.set_cons_succ]
    refine takeInH 3 37 ?v44 rfl rfl (by kernel_rfl) (by kernel_rfl) (by kernel_rfl) (fun _ _ _ h => h) (by kernel_rfl) hS0 ?hy44 ?_
    case hy44 => (intro W hW; clear hW; go_simp; try rfl)
    simp only [Act.put, List.setIfInBounds_toArray, List.set_cons_zero, List.set_cons_succ]
    refine takeInH 4 38 ?v45 rfl rfl (by kernel_rfl) (by kernel_rfl) (by kernel_rfl) (fun _ _ _ h => h) (by kernel_rfl) hS0 ?hy45 ?_
    case hy45 => (intro W hW; clear hW; go_simp; try rfl)
    simp only [Act.put, List.setIfInBounds_toArray, List.set_cons_zero, List.set_cons_succ]
    refine takeInH 5 39 ?v46 rfl rfl (by kernel_rfl) (by kernel_rfl) (by kernel_rfl) (fun _ _ _ h => h) (by kernel_rfl) hS0 ?hy46 ?_
    case hy46 => (intro W hW; clear hW; go_simp; try rfl)
    simp only [Act.put, List.setIfInBounds_toArray, List.set_cons_zero, List.set_cons_succ]
    refine takeInH 6 40 ?v47 rfl rfl (by kernel_rfl) (by kernel_rfl) (by kernel_rfl) (fun _ _ _ h => h) (by kernel_rfl) hS0 ?hy47 ?_
    case hy47 => (intro W hW; clear hW; go_simp; try rfl)
    simp only [Act.put, List.setIfInBounds_toArray, List.set_cons_zero, List.set_cons_succ]
    refine wpAnyH_ready (rs := [7]) (by kernel_rfl) (by simp) ?_
    refine AllReadyH.cons rfl (fun K hK => ?_) AllReadyH.nil
    go_simp
    have BW : Below u.heap.size u (u.alloc (.cells #[.slice none 0 0, .slice none 0 0, .slice none 0 0] 22)).drew := (bel1 u (.cells #[.slice none 0 0, .slice none 0 0, .slice none 0 0] 22)).drew
    have x0 : (u.alloc (.cells #[.slice none 0 0, .slice none 0 0, .slice none 0 0] 22)).drew.cell? ⟨u.heap.size, 0, none⟩ = some (.slice none 0 0) := cell_new u #[.slice none 0 0, .slice none 0 0, .slice none 0 0] 22 _ rfl 0 _ rfl
    have x1 : (u.alloc (.cells #[.slice none 0 0, .slice none 0 0, .slice none 0 0] 22)).drew.cell? ⟨u.heap.size, 1, none⟩ = some (.slice none 0 0) := cell_new u #[.slice none 0 0, .slice none 0 0, .slice none 0 0] 22 _ rfl 1 _ rfl
    have x2 : (u.alloc (.cells #[.slice none 0 0, .slice none 0 0, .slice none 0 0] 22)).drew.cell? ⟨u.heap.size, 2, none⟩ = some (.slice none 0 0) := cell_new u #[.slice none 0 0, .slice none 0 0, .slice none 0 0] 22 _ rfl 2 _ rfl
    generalize (u.alloc (.cells #[.slice none 0 0, .slice none 0 0, .slice none 0 0] 22)).drew = wb at BW x0 x1 x2 ⊢
    refine hK.out _ _ ?hs48 (fun hS1 => ?_)
    case hs48 => exact BW
    clear hK K
    try simp only [Act.put, List.setIfInBounds_toArray, List.set_cons_zero, List.set_cons_succ]
    refine wpAnyH_ready (rs := [8]) (by kernel_rfl) (by simp) ?_
    refine AllReadyH.cons rfl (fun K hK => ?_) AllReadyH.nil
    go_simp
    refine (concatT_any u.heap.size none none none 0 0 0 0 0 0 [] [] [] _ x0 x1 x2 (TS.nil _ _) (HTT.out.below hS1) (TS.nil _ _) (fun _ => rfl) (fun _ => rfl) (fun _ => rfl) (by omega)).mono ?_
    rintro e9 wn ⟨v9, rfl, ho9, hb⟩
    have HO9 := hide ho9
    clear ho9
    refine hK.out _ _ ?hs49 (fun hS2 => ?_)
    case hs49 => exact bel_next hS1 hb
    clear hK K hb
    try simp only [Act.put, List.setIfInBounds_toArray, List.set_cons_zero, List.set_cons_succ]
    refine takeInH 9 6 ?v50 rfl rfl (by kernel_rfl) (by kernel_rfl) (by kernel_rfl) (fun _ _ _ h => h) (by kernel_rfl) hS2 ?hy50 ?_
    case hy50 => (intro W hW; clear hW; go_simp; try rfl)
    simp only [Act.put, List.setIfInBounds_toArray, List.set_cons_zero, List.set_cons_succ]
    refine wpAnyH_done (by kernel_rfl) ?_ _
    go_wp2
    go_ret
    refine ⟨_, rfl, ?_, bel_next HB.out hS2⟩
    rw [HRES.out]
    exact OwnR.mono HO9.out (Nat.le_trans HB.out.size BW.size)
  · have HRES : Hid (addT [] t m = [] ++ [(t, m)] ++ []) := by unfold Hid; rw [HADD.out, celT, if_neg hz]; rfl
    have hz2 : ((m : Int) != 0) = true := by simpa using hz
    have BN := hide (bel1 w1 (.cells #[.string t, .int .i64 (m)] 36))
    have HTT : Hid (TS (w1.alloc (.cells #[.string t, .int .i64 (m)] 36)) (some ⟨w1.heap.size, 0, none⟩) 1 [(t, m)]) := RS.new encC_len w1 _ rfl [(t, m)] _ (by simp [encC]) _ _ 1 rfl (by decide)
    go_upto_region 9 with fail
    replace HB := hide (bel_next HB.out BN.out)
    clear BN
    generalize w1.heap.size = GB at *
    generalize hww : w1.alloc (.cells #[.string t, .int .i64 (m)] 36) = u at *
    clear hww
    refine wp_region_held_drew (S := fun W => Below u.heap.size u W) (by kernel_rfl) ((Below.refl _ u).drew) (fun hS0 => ?_)
    refine takeInH 0 34 ?v51 rfl rfl (by kernel_rfl) (by kernel_rfl) (by kernel_rfl) (fun _ _ _ h => h) (by kernel_rfl) hS0 ?hy51 ?_
    case hy51 => (intro W hW; clear hW; go_simp; try rfl)
    simp only [Act.put, List.setIfInBounds_toArray, List.set_cons_zero, List.set_cons_succ]
    refine takeInH 1 35 ?v52 rfl rfl (by kernel_rfl) (by kernel_rfl) (by kernel_rfl) (fun _ _ _ h => h) (by kernel_rfl) hS0 ?hy52 ?_
    case hy52 => (intro W hW; clear hW; go_simp; try rfl)
    simp only [Act.put, List.setIfInBounds_toArray, List.set_cons_zero, List.set_cons_succ]
    refine takeInH 2 36 ?v53 rfl rfl (by kernel_rfl) (by kernel_rfl) (by kernel_rfl) (fun _ _ _ h => h) (by kernel_rfl) hS0 ?hy53 ?_
    case hy53 => (intro W hW; clear hW; go_simp; try rfl)
    simp only [Act.put, List.setIfInBounds_toArray, List.set_cons_zero, List.set_cons_succ]
    refine takeInH 3 37 ?v54 rfl rfl (by kernel_rfl) (by kernel_rfl) (by kernel_rfl) (fun _ _ _ h => h) (by kernel_rfl) hS0 ?hy54 ?_
    case hy54 => (intro W hW; clear hW; go_simp; try rfl)
    simp only [Act.put, List.setIfInBounds_toArray, List.set_cons_zero, List.set_cons_succ]
    refine takeInH 4 38 ?v55 rfl rfl (by kernel_rfl) (by kernel_rfl) (by kernel_rfl) (fun _ _ _ h => h) (by kernel_rfl) hS0 ?hy55 ?_
    case hy55 => (intro W hW; clear hW; go_simp; try rfl)
    simp only [Act.put, List.setIfInBounds_toArray, List.set_cons_zero, List.set_cons_succ]
    refine takeInH 5 39 ?v56 rfl rfl (by kernel_rfl) (by kernel_rfl) (by kernel_rfl) (fun _ _ _ h => h) (by kernel_rfl) hS0 ?hy56 ?_
    case hy56 => (intro W hW; clear hW; go_simp; try rfl)
    simp only [Act.put, List.setIfInBounds_toArray, List.set_cons_zero, List.set_cons_succ]
    refine takeInH 6 40 ?v57 rfl rfl (by kernel_rfl) (by kernel_rfl) (by kernel_rfl) (fun _ _ _ h => h) (by kernel_rfl) hS0 ?hy57 ?_
    case hy57 => (intro W hW; clear hW; go_simp; try rfl)
    simp only [Act.put, List.setIfInBounds_toArray, List.set_cons_zero, List.set_cons_succ]
    refine wpAnyH_ready (rs := [7]) (by kernel_rfl) (by simp) ?_
    refine AllReadyH.cons rfl (fun K hK => ?_) AllReadyH.nil
    go_simp
    have BW : Below u.heap.size u (u.alloc (.cells #[.slice none 0 0, .slice (some ⟨GB, 0, none⟩) 1 1, .slice none 0 0] 22)).drew := (bel1 u (.cells #[.slice none 0 0, .slice (some ⟨GB, 0, none⟩) 1 1, .slice none 0 0] 22)).drew
    have x0 : (u.alloc (.cells #[.slice none 0 0, .slice (some ⟨GB, 0, none⟩) 1 1, .slice none 0 0] 22)).drew.cell? ⟨u.heap.size, 0, none⟩ = some (.slice none 0 0) := cell_new u #[.slice none 0 0, .slice (some ⟨GB, 0, none⟩) 1 1, .slice none 0 0] 22 _ rfl 0 _ rfl
    have x1 : (u.alloc (.cells #[.slice none 0 0, .slice (some ⟨GB, 0, none⟩) 1 1, .slice none 0 0] 22)).drew.cell? ⟨u.heap.size, 1, none⟩ = some (.slice (some ⟨GB, 0, none⟩) 1 1) := cell_new u #[.slice none 0 0, .slice (some ⟨GB, 0, none⟩) 1 1, .slice none 0 0] 22 _ rfl 1 _ rfl
    have x2 : (u.alloc (.cells #[.slice none 0 0, .slice (some ⟨GB, 0, none⟩) 1 1, .slice none 0 0] 22)).drew.cell? ⟨u.heap.size, 2, none⟩ = some (.slice none 0 0) := cell_new u #[.slice none 0 0, .slice (some ⟨GB, 0, none⟩) 1 1, .slice none 0 0] 22 _ rfl 2 _ rfl
    generalize (u.alloc (.cells #[.slice none 0 0, .slice (some ⟨GB, 0, none⟩) 1 1, .slice none 0 0] 22)).drew = wb at BW x0 x1 x2 ⊢
    refine hK.out _ _ ?hs58 (fun hS1 => ?_)
    case hs58 => exact BW
    clear hK K
    try simp only [Act.put, List.setIfInBounds_toArray, List.set_cons_zero, List.set_cons_succ]
    refine wpAnyH_ready (rs := [8]) (by kernel_rfl) (by simp) ?_
    refine AllReadyH.cons rfl (fun K hK => ?_) AllReadyH.nil
    go_simp
    refine (concatT_any u.heap.size none (some ⟨GB, 0, none⟩) none 0 0 1 1 0 0 [] [(t, m)] [] _ x0 x1 x2 (TS.nil _ _) (HTT.out.below hS1) (TS.nil _ _) (fun _ => rfl) (fun h => by cases h) (fun _ => rfl) (by omega)).mono ?_
    rintro e9 wn ⟨v9, rfl, ho9, hb⟩
    have HO9 := hide ho9
    clear ho9
    refine hK.out _ _ ?hs59 (fun hS2 => ?_)
    case hs59 => exact bel_next hS1 hb
    clear hK K hb
    try simp only [Act.put, List.setIfInBounds_toArray, List.set_cons_zero, List.set_cons_succ]
    refine takeInH 9 6 ?v60 rfl rfl (by kernel_rfl) (by kernel_rfl) (by kernel_rfl) (fun _ _ _ h => h) (by kernel_rfl) hS2 ?hy60 ?_
    case hy60 => (intro W hW; clear hW; go_simp; try rfl)
    simp only [Act.put, List.setIfInBounds_toArray, List.set_cons_zero, List.set_cons_succ]
    refine wpAnyH_done (by kernel_rfl) ?_ _
    go_wp2
    go_ret
    refine ⟨_, rfl, ?_, bel_next HB.out hS2⟩
    rw [HRES.out]
    exact OwnR.mono HO9.out (Nat.le_trans HB.out.size BW.size)
set_option maxHeartbeats 4000000 in
theorem raised_zero (b off cap : Nat) (fz : _) (t : ByteArray) (m : Int) (w : World) (hcm : cap ≤ maxLen) :
    Calls Try.prog 19 #[.slice (some ⟨b, off, fz⟩) 0 cap, .string t, .int .i64 m] w fun e w' => ∃ v, e = .returned v ∧ OwnR encC 2 36 w.heap.size w' v (addT [] t m) ∧ Below w.heap.size w w' := by
  have HPL := hide (placeT_any (some ⟨b, off, fz⟩) 0 cap [] t w (TS.nil _ _) (by simp [SrtG]) (by decide))
  have HADD : Hid (addT [] t m = (celT t m).toList) := by unfold Hid addT setT putG numT getG; simp
  go_enter Try.func19, Try.ntmps19
  go_upto_region 2 with (go_at_call 21; refine HPL.out.mono ?_; rintro e w1 ⟨⟨i, rfl, hp⟩, hb⟩)
  have HB := hide hb
  obtain rfl : i = 0 := by have := hp.1; simpa using this
  clear hp hb HPL
  have ht : thereG kC ([] : List Ce) t 0 = false := rfl
  rw [ht]
  have hc0 : (0 : Int) ≤ (cap : Int) := by omega
  by_cases hz : m = 0
  · have HRES : Hid (addT [] t m = [] ++ [] ++ []) := by unfold Hid; rw [HADD.out, celT, if_pos hz]; rfl
    have HTT : Hid (TS w1 none 0 []) := TS.nil _ _
    have hz2 : ((m : Int) != 0) = false := by simpa using hz
    go_upto_region 9 with fail
    generalize hww : w1 = u at *
    clear hww
    refine wp_region_held_drew (S := fun W => Below u.heap.size u W) (by kernel_rfl) ((Below.refl _ u).drew) (fun hS0 => ?_)
    refine takeInH 0 34 ?v61 rfl rfl (by kernel_rfl) (by kernel_rfl) (by kernel_rfl) (fun _ _ _ h => h) (by kernel_rfl) hS0 ?hy61 ?_
    case hy61 => (intro W hW; clear hW; go_simp; try rfl)
    simp only [Act.put, List.setIfInBounds_toArray, List.set_cons_zero, List.set_cons_succ]
    refine takeInH 1 35 ?v62 rfl rfl (by kernel_rfl) (by kernel_rfl) (by kernel_rfl) (fun _ _ _ h => h) (by kernel_rfl) hS0 ?hy62 ?_
    case hy62 => (intro W hW; clear hW; go_simp; try rfl)
    simp only [Act.put, List.setIfInBounds_toArray, List.set_cons_zero, List.set_cons_succ]
    refine takeInH 2 36 ?v63 rfl rfl (by kernel_rfl) (by kernel_rfl) (by kernel_rfl) (fun _ _ _ h => h) (by kernel_rfl) hS0 ?hy63 ?_
    case hy63 => (intro W hW; clear hW; go_simp; try rfl)
    simp only [Act.put, List.setIfInBounds_toArray, List.set_cons_zero, List.set_cons_succ]
    refine takeInH 3 37 ?v64 rfl rfl (by kernel_rfl) (by kernel_rfl) (by kernel_rfl) (fun _ _ _ h => h) (by kernel_rfl) hS0 ?hy64 ?_
    case hy64 => (intro W hW; clear hW; go_simp; try rfl)
    simp only [Act.put, List.setIfInBounds_toArray, List.set_cons_zero, List.set_cons_succ]
    refine takeInH 4 38 ?v65 rfl rfl (by kernel_rfl) (by kernel_rfl) (by kernel_rfl) (fun _ _ _ h => h) (by kernel_rfl) hS0 ?hy65 ?_
    case hy65 => (intro W hW; clear hW; go_simp; try rfl)
    simp only [Act.put, List.setIfInBounds_toArray, List.set_cons_zero, List.set_cons_succ]
    refine takeInH 5 39 ?v66 rfl rfl (by kernel_rfl) (by kernel_rfl) (by kernel_rfl) (fun _ _ _ h => h) (by kernel_rfl) hS0 ?hy66 ?_
    case hy66 => (intro W hW; clear hW; go_simp; try rfl)
    simp only [Act.put, List.setIfInBounds_toArray, List.set_cons_zero, List.set_cons_succ]
    refine takeInH 6 40 ?v67 rfl rfl (by kernel_rfl) (by kernel_rfl) (by kernel_rfl) (fun _ _ _ h => h) (by kernel_rfl) hS0 ?hy67 ?_
    case hy67 => (intro W hW; clear hW; go_simp; try rfl)
    simp only [Act.put, List.setIfInBounds_toArray, List.set_cons_zero, List.set_cons_succ]
    refine wpAnyH_ready (rs := [7]) (by kernel_rfl) (by simp) ?_
    refine AllReadyH.cons rfl (fun K hK => ?_) AllReadyH.nil
    go_simp
    have BW : Below u.heap.size u (u.alloc (.cells #[.slice (some ⟨b, off, fz⟩) 0 cap, .slice none 0 0, .slice (some ⟨b, off, fz⟩) 0 cap] 22)).drew := (bel1 u (.cells #[.slice (some ⟨b, off, fz⟩) 0 cap, .slice none 0 0, .slice (some ⟨b, off, fz⟩) 0 cap] 22)).drew
    have x0 : (u.alloc (.cells #[.slice (some ⟨b, off, fz⟩) 0 cap, .slice none 0 0, .slice (some ⟨b, off, fz⟩) 0 cap] 22)).drew.cell? ⟨u.heap.size, 0, none⟩ = some (.slice (some ⟨b, off, fz⟩) 0 cap) := cell_new u #[.slice (some ⟨b, off, fz⟩) 0 cap, .slice none 0 0, .slice (some ⟨b, off, fz⟩) 0 cap] 22 _ rfl 0 _ rfl
    have x1 : (u.alloc (.cells #[.slice (some ⟨b, off, fz⟩) 0 cap, .slice none 0 0, .slice (some ⟨b, off, fz⟩) 0 cap] 22)).drew.cell? ⟨u.heap.size, 1, none⟩ = some (.slice none 0 0) := cell_new u #[.slice (some ⟨b, off, fz⟩) 0 cap, .slice none 0 0, .slice (some ⟨b, off, fz⟩) 0 cap] 22 _ rfl 1 _ rfl
    have x2 : (u.alloc (.cells #[.slice (some ⟨b, off, fz⟩) 0 cap, .slice none 0 0, .slice (some ⟨b, off, fz⟩) 0 cap] 22)).drew.cell? ⟨u.heap.size, 2, none⟩ = some (.slice (some ⟨b, off, fz⟩) 0 cap) := cell_new u #[.slice (some ⟨b, off, fz⟩) 0 cap, .slice none 0 0, .slice (some ⟨b, off, fz⟩) 0 cap] 22 _ rfl 2 _ rfl
    generalize (u.alloc (.cells #[.slice (some ⟨b, off, fz⟩) 0 cap, .slice none 0 0, .slice (some ⟨b, off, fz⟩) 0 cap] 22)).drew = wb at BW x0 x1 x2 ⊢
    refine hK.out _ _ ?hs68 (fun hS1 => ?_)
    case hs68 => exact BW
    clear hK K
    try simp only [Act.put, List.setIfInBounds_toArray, List.set_cons_zero, List.set_cons_succ]
    refine wpAnyH_ready (rs := [8]) (by kernel_rfl) (by simp) ?_
    refine AllReadyH.cons rfl (fun K hK => ?_) AllReadyH.nil
    go_simp
    refine (concatT_any u.heap.size (some ⟨b, off, fz⟩) none (some ⟨b, off, fz⟩) 0 cap 0 0 0 cap [] [] [] _ x0 x1 x2 (TS.nil _ _) (HTT.out.below hS1) (TS.nil _ _) (fun h => by cases h) (fun _ => rfl) (fun h => by cases h) (by omega)).mono ?_
    rintro e9 wn ⟨v9, rfl, ho9, hb⟩
    have HO9 := hide ho9
    clear ho9
    refine hK.out _ _ ?hs69 (fun hS2 => ?_)
    case hs69 => exact bel_next hS1 hb
    clear hK K hb
    try simp only [Act.put, List.setIfInBounds_toArray, List.set_cons_zero, List.set_cons_succ]
    refine takeInH 9 6 ?v70 rfl rfl (by kernel_rfl) (by kernel_rfl) (by kernel_rfl) (fun _ _ _ h => h) (by kernel_rfl) hS2 ?hy70 ?_
    case hy70 => (intro W hW; clear hW; go_simp; try rfl)
    simp only [Act.put, List.setIfInBounds_toArray, List.set_cons_zero, List.set_cons_succ]
    refine wpAnyH_done (by kernel_rfl) ?_ _
    go_wp2
    go_ret
    refine ⟨_, rfl, ?_, bel_next HB.out hS2⟩
    rw [HRES.out]
    exact OwnR.mono HO9.out (Nat.le_trans HB.out.size BW.size)
  · have HRES : Hid (addT [] t m = [] ++ [(t, m)] ++ []) := by unfold Hid; rw [HADD.out, celT, if_neg hz]; rfl
    have hz2 : ((m : Int) != 0) = true := by simpa using hz
    have BN := hide (bel1 w1 (.cells #[.string t, .int .i64 (m)] 36))
    have HTT : Hid (TS (w1.alloc (.cells #[.string t, .int .i64 (m)] 36)) (some ⟨w1.heap.size, 0, none⟩) 1 [(t, m)]) := RS.new encC_len w1 _ rfl [(t, m)] _ (by simp [encC]) _ _ 1 rfl (by decide)
    go_upto_region 9 with fail
    replace HB := hide (bel_next HB.out BN.out)
    clear BN
    generalize w1.heap.size = GB at *
    generalize hww : w1.alloc (.cells #[.string t, .int .i64 (m)] 36) = u at *
    clear hww
    refine wp_region_held_drew (S := fun W => Below u.heap.size u W) (by kernel_rfl) ((Below.refl _ u).drew) (fun hS0 => ?_)
    refine takeInH 0 34 ?v71 rfl rfl (by kernel_rfl) (by kernel_rfl) (by kernel_rfl) (fun _ _ _ h => h) (by kernel_rfl) hS0 ?hy71 ?_
    case hy71 => (intro W hW; clear hW; go_simp; try rfl)
    simp only [Act.put, List.setIfInBounds_toArray, List.set_cons_zero, List.set_cons_succ]
    refine takeInH 1 35 ?v72 rfl rfl (by kernel_rfl) (by kernel_rfl) (by kernel_rfl) (fun _ _ _ h => h) (by kernel_rfl) hS0 ?hy72 ?_
    case hy72 => (intro W hW; clear hW; go_simp; try rfl)
    simp only [Act.put, List.setIfInBounds_toArray, List.set_cons_zero, List.set_cons_succ]
    refine takeInH 2 36 ?v73 rfl rfl (by kernel_rfl) (by kernel_rfl) (by kernel_rfl) (fun _ _ _ h => h) (by kernel_rfl) hS0 ?hy73 ?_
    case hy73 => (intro W hW; clear hW; go_simp; try rfl)
    simp only [Act.put, List.setIfInBounds_toArray, List.set_cons_zero, List.set_cons_succ]
    refine takeInH 3 37 ?v74 rfl rfl (by kernel_rfl) (by kernel_rfl) (by kernel_rfl) (fun _ _ _ h => h) (by kernel_rfl) hS0 ?hy74 ?_
    case hy74 => (intro W hW; clear hW; go_simp; try rfl)
    simp only [Act.put, List.setIfInBounds_toArray, List.set_cons_zero, List.set_cons_succ]
    refine takeInH 4 38 ?v75 rfl rfl (by kernel_rfl) (by kernel_rfl) (by kernel_rfl) (fun _ _ _ h => h) (by kernel_rfl) hS0 ?hy75 ?_
    case hy75 => (intro W hW; clear hW; go_simp; try rfl)
    simp only [Act.put, List.setIfInBounds_toArray, List.set_cons_zero, List.set_cons_succ]
    refine takeInH 5 39 ?v76 rfl rfl (by kernel_rfl) (by kernel_rfl) (by kernel_rfl) (fun _ _ _ h => h) (by kernel_rfl) hS0 ?hy76 ?_
    case hy76 => (intro W hW; clear hW; go_simp; try rfl)
    simp only [Act.put, List.setIfInBounds_toArray, List.set_cons_zero, List.set_cons_succ]
    refine takeInH 6 40 ?v77 rfl rfl (by kernel_rfl) (by kernel_rfl) (by kernel_rfl) (fun _ _ _ h => h) (by kernel_rfl) hS0 ?hy77 ?_
    case hy77 => (intro W hW; clear hW; go_simp; try rfl)
    simp only [Act.put, List.setIfInBounds_toArray, List.set_cons_zero, List.set_cons_succ]
    refine wpAnyH_ready (rs := [7]) (by kernel_rfl) (by simp) ?_
    refine AllReadyH.cons rfl (fun K hK => ?_) AllReadyH.nil
    go_simp
    have BW : Below u.heap.size u (u.alloc (.cells #[.slice (some ⟨b, off, fz⟩) 0 cap, .slice (some ⟨GB, 0, none⟩) 1 1, .slice (some ⟨b, off, fz⟩) 0 cap] 22)).drew := (bel1 u (.cells #[.slice (some ⟨b, off, fz⟩) 0 cap, .slice (some ⟨GB, 0, none⟩) 1 1, .slice (some ⟨b, off, fz⟩) 0 cap] 22)).drew
    have x0 : (u.alloc (.cells #[.slice (some ⟨b, off, fz⟩) 0 cap, .slice (some ⟨GB, 0, none⟩) 1 1, .slice (some ⟨b, off, fz⟩) 0 cap] 22)).drew.cell? ⟨u.heap.size, 0, none⟩ = some (.slice (some ⟨b, off, fz⟩) 0 cap) := cell_new u #[.slice (some ⟨b, off, fz⟩) 0 cap, .slice (some ⟨GB, 0, none⟩) 1 1, .slice (some ⟨b, off, fz⟩) 0 cap] 22 _ rfl 0 _ rfl
    have x1 : (u.alloc (.cells #[.slice (some ⟨b, off, fz⟩) 0 cap, .slice (some ⟨GB, 0, none⟩) 1 1, .slice (some ⟨b, off, fz⟩) 0 cap] 22)).drew.cell? ⟨u.heap.size, 1, none⟩ = some (.slice (some ⟨GB, 0, none⟩) 1 1) := cell_new u #[.slice (some ⟨b, off, fz⟩) 0 cap, .slice (some ⟨GB, 0, none⟩) 1 1, .slice (some ⟨b, off, fz⟩) 0 cap] 22 _ rfl 1 _ rfl
    have x2 : (u.alloc (.cells #[.slice (some ⟨b, off, fz⟩) 0 cap, .slice (some ⟨GB, 0, none⟩) 1 1, .slice (some ⟨b, off, fz⟩) 0 cap] 22)).drew.cell? ⟨u.heap.size, 2, none⟩ = some (.slice (some ⟨b, off, fz⟩) 0 cap) := cell_new u #[.slice (some ⟨b, off, fz⟩) 0 cap, .slice (some ⟨GB, 0, none⟩) 1 1, .slice (some ⟨b, off, fz⟩) 0 cap] 22 _ rfl 2 _ rfl
    generalize (u.alloc (.cells #[.slice (some ⟨b, off, fz⟩) 0 cap, .slice (some ⟨GB, 0, none⟩) 1 1, .slice (some ⟨b, off, fz⟩) 0 cap] 22)).drew = wb at BW x0 x1 x2 ⊢
    refine hK.out _ _ ?hs78 (fun hS1 => ?_)
    case hs78 => exact BW
    clear hK K
    try simp only [Act.put, List.setIfInBounds_toArray, List.set_cons_zero, List.set_cons_succ]
    refine wpAnyH_ready (rs := [8]) (by kernel_rfl) (by simp) ?_
    refine AllReadyH.cons rfl (fun K hK => ?_) AllReadyH.nil
    go_simp
    refine (concatT_any u.heap.size (some ⟨b, off, fz⟩) (some ⟨GB, 0, none⟩) (some ⟨b, off, fz⟩) 0 cap 1 1 0 cap [] [(t, m)] [] _ x0 x1 x2 (TS.nil _ _) (HTT.out.below hS1) (TS.nil _ _) (fun h => by cases h) (fun h => by cases h) (fun h => by cases h) (by omega)).mono ?_
    rintro e9 wn ⟨v9, rfl, ho9, hb⟩
    have HO9 := hide ho9
    clear ho9
    refine hK.out _ _ ?hs79 (fun hS2 => ?_)
    case hs79 => exact bel_next hS1 hb
    clear hK K hb
    try simp only [Act.put, List.setIfInBounds_toArray, List.set_cons_zero, List.set_cons_succ]
    refine takeInH 9 6 ?v80 rfl rfl (by kernel_rfl) (by kernel_rfl) (by kernel_rfl) (fun _ _ _ h => h) (by kernel_rfl) hS2 ?hy80 ?_
    case hy80 => (intro W hW; clear hW; go_simp; try rfl)
    simp only [Act.put, List.setIfInBounds_toArray, List.set_cons_zero, List.set_cons_succ]
    refine wpAnyH_done (by kernel_rfl) ?_ _
    go_wp2
    go_ret
    refine ⟨_, rfl, ?_, bel_next HB.out hS2⟩
    rw [HRES.out]
    exact OwnR.mono HO9.out (Nat.le_trans HB.out.size BW.size)
end Go.Proofs.Ytmleajocdooihaa
