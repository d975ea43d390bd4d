/- Records' bytes, as the document says them (layer 7). -/
import Derived.Test.YtofalfaiamaapaaJ1
import Derived.Test.YtofalfaiamaapaaK3a
namespace Go.Proofs.Ytofalfaiamaapaa
open Go.RowKit
set_option linter.unusedVariables false
theorem rec_le (k : Int) (t : List Int) : (record k t).length ≤ t.length + 14 := by
  have := rhead_len k t
  simp only [record, List.length_append, be_len]
  omega
theorem bytesRs_snoc (l : List Rc) (x : Rc) : bytesRs (l ++ [x]) = bytesRs l ++ record x.k x.b := by simp [bytesRs]
theorem bytesRs_take (l : List Rc) (k : Nat) : (bytesRs (l.take k)).length ≤ (bytesRs l).length := by
  have h : bytesRs l = bytesRs (l.take k) ++ bytesRs (l.drop k) := by
    unfold bytesRs
    rw [← List.flatMap_append, List.take_append_drop]
  rw [h, List.length_append]
  omega
theorem bytesRs_by {l : List Rc} (h : ∀ x ∈ l, mayRc x = true) (hb : ∀ x ∈ l, By x.b) : By (bytesRs l) := by
  intro n hn
  obtain ⟨x, hx, hn⟩ := List.mem_flatMap.1 hn
  have q := (mayRc_iff x).1 (h x hx)
  exact record_by (by omega) (by omega) (hb x hx) n hn
theorem RC.byB {w : World} {a : Option Addr} {n : Nat} {l : List Rc} (h : RC w a n l) : ∀ x ∈ l, By x.b := by
  intro x hx
  obtain ⟨i, hi, rfl⟩ := List.getElem_of_mem hx
  have hn : i < n := by rw [← h.len]; exact hi
  obtain ⟨b, off, rfl⟩ := h.addr (by omega)
  obtain ⟨y, p, m, c, hy, hB, _⟩ := h.one i hn
  rw [List.getElem?_eq_getElem hi] at hy
  cases hy
  exact hB.2.2.1
set_option maxHeartbeats 4000000 in
theorem bytesRs_any (a : Option Addr) (n cap : Nat) (l : List Rc) (w : World) (hA : RC w a n l) (hM : ∀ x ∈ l, mayRc x = true) (hbig : (bytesRs l).length ≤ 100000000) : Calls Try.prog 42 #[.slice a n cap] w fun e w' => ∃ v, e = .returned v ∧ Own w.heap.size w' v (bytesRs l) ∧ Below w.heap.size w w' := by
  have HV := hide hA
  have hmx := hA.max
  unfold maxLen at hmx
  have HMM := hide hM
  have HBIG := hide hbig
  clear hA hM hbig
  go_enter Try.func42, Try.ntmps42
  go_wp2
  go_loopw [3, 4] (fun v i wr => ∃ k : Nat, k ≤ n ∧ i = .int .i64 k ∧ Hid (Own w.heap.size wr v (bytesRs (l.take k))) ∧ Hid (Below w.heap.size w wr)) (fun _ i _ => n - (intOf i).toNat)
  case atStart => exact ⟨0, by omega, rfl, (show Own _ _ _ _ from Own.made w w.heap.size _ rfl (Nat.le_refl _)), bel1 _ _⟩
  case round =>
    obtain ⟨k, hk, rfl, OV, HB⟩ := hrel
    by_cases hlt : k < n
    · obtain ⟨b, off, rfl⟩ := HV.out.addr (by omega)
      obtain ⟨⟨xk, xb⟩, p, m, c, hx, hBx, hCx, c0, c1⟩ := HV.out.one k hlt
      simp only [] at c0 c1
      have hk0 : (0 : Int) ≤ (k : Int) := by omega
      have hk1 : (k : Int) < (n : Int) := by omega
      have hq := (mayRc_iff _).1 (HMM.out _ (List.mem_of_getElem? hx))
      simp only [] at hq
      have h1 : 1 ≤ xk := by omega
      have h2 : xk ≤ 200 := hq.2.1
      have h3 : m ≤ 65536 := by have q9 := hBx.1; simp only [] at q9; omega
      have HTK : Hid (bytesRs (l.take (k + 1)) = bytesRs (l.take k) ++ record xk xb) := by
        unfold Hid
        rw [take_snocR hx, bytesRs_snoc]
      have HLN : Hid ((bytesRs (l.take k)).length + (record xk xb).length ≤ 140737488355328) := by
        have q := bytesRs_take l (k + 1)
        rw [HTK.out, List.length_append] at q
        have := HBIG.out
        unfold Hid
        omega
      have HBY : Hid (By (record xk xb)) := record_by (by omega) (by omega) hBx.2.2.1
      have BX1 := hide hBx
      clear hx hBx hq
      go_upto_region 5 with fail
      refine wp_region_held_drew (S := fun W => Below w.heap.size w W) (by kernel_rfl) (HB.out.drew) (fun hS0 => ?_)
      refine takeInH 0 12 ?v1 rfl rfl (by kernel_rfl) (by kernel_rfl) (by kernel_rfl) (fun _ _ _ h => h) (by kernel_rfl) hS0 ?hy1 ?_
      case hy1 => (intro W hW; clear hW; go_simp; try rfl)
      simp only [Act.put, List.setIfInBounds_toArray, List.set_cons_zero, List.set_cons_succ]
      refine takeInH 1 13 ?v2 rfl rfl (by kernel_rfl) (by kernel_rfl) (by kernel_rfl) (fun _ _ _ h => h) (by kernel_rfl) hS0 ?hy2 ?_
      case hy2 => (intro W hW; clear hW; go_simp; try rfl)
      simp only [Act.put, List.setIfInBounds_toArray, List.set_cons_zero, List.set_cons_succ]
      refine takeInH 2 14 ?v3 rfl rfl (by kernel_rfl) (by kernel_rfl) (by kernel_rfl) (fun _ _ _ h => h) (by kernel_rfl) hS0 ?hy3 ?_
      case hy3 => (intro W hW; clear hW; go_simp; try rfl)
      simp only [Act.put, List.setIfInBounds_toArray, List.set_cons_zero, List.set_cons_succ]
      refine takeInH 3 15 ?v4 rfl rfl (by kernel_rfl) (by kernel_rfl) (by kernel_rfl) (fun _ _ _ h => h) (by kernel_rfl) hS0 ?hy4 ?_
      case hy4 => (intro W hW; clear hW; go_simp; try rfl)
      simp only [Act.put, List.setIfInBounds_toArray, List.set_cons_zero, List.set_cons_succ]
      refine takeInH 4 16 ?v5 rfl rfl (by kernel_rfl) (by kernel_rfl) (by kernel_rfl) (fun _ _ _ h => h) (by kernel_rfl) hS0 ?hy5 ?_
      case hy5 => (intro W hW; clear hW; go_simp; try rfl)
      simp only [Act.put, List.setIfInBounds_toArray, List.set_cons_zero, List.set_cons_succ]
      refine takeInH 5 17 ?v6 rfl rfl (by kernel_rfl) (by kernel_rfl) (by kernel_rfl) (fun _ _ _ h => h) (by kernel_rfl) hS0 ?hy6 ?_
      case hy6 => (intro W hW; have e0 := bcell hW c0; have e1 := bcell hW c1; clear hW; go_simp; try rfl)
      simp only [Act.put, List.setIfInBounds_toArray, List.set_cons_zero, List.set_cons_succ]
      refine takeInH 6 18 ?v7 rfl rfl (by kernel_rfl) (by kernel_rfl) (by kernel_rfl) (fun _ _ _ h => h) (by kernel_rfl) hS0 ?hy7 ?_
      case hy7 => (intro W hW; clear hW; go_simp; try rfl)
      simp only [Act.put, List.setIfInBounds_toArray, List.set_cons_zero, List.set_cons_succ]
      refine takeInH 7 19 ?v8 rfl rfl (by kernel_rfl) (by kernel_rfl) (by kernel_rfl) (fun _ _ _ h => h) (by kernel_rfl) hS0 ?hy8 ?_
      case hy8 => (intro W hW; clear hW; go_simp; try rfl)
      simp only [Act.put, List.setIfInBounds_toArray, List.set_cons_zero, List.set_cons_succ]
      refine takeInH 8 20 ?v9 rfl rfl (by kernel_rfl) (by kernel_rfl) (by kernel_rfl) (fun _ _ _ h => h) (by kernel_rfl) hS0 ?hy9 ?_
      case hy9 => (intro W hW; clear hW; go_simp; try rfl)
      simp only [Act.put, List.setIfInBounds_toArray, List.set_cons_zero, List.set_cons_succ]
      refine takeInH 9 21 ?v10 rfl rfl (by kernel_rfl) (by kernel_rfl) (by kernel_rfl) (fun _ _ _ h => h) (by kernel_rfl) hS0 ?hy10 ?_
      case hy10 => (intro W hW; clear hW; go_simp; try rfl)
      simp only [Act.put, List.setIfInBounds_toArray, List.set_cons_zero, List.set_cons_succ]
      refine takeInH 10 22 ?v11 rfl rfl (by kernel_rfl) (by kernel_rfl) (by kernel_rfl) (fun _ _ _ h => h) (by kernel_rfl) hS0 ?hy11 ?_
      case hy11 => (intro W hW; have e0 := bcell hW c0; have e1 := bcell hW c1; clear hW; go_simp; try rfl)
      simp only [Act.put, List.setIfInBounds_toArray, List.set_cons_zero, List.set_cons_succ]
      refine wpAnyH_ready (rs := [11]) (by kernel_rfl) (by simp) ?_
      refine AllReadyH.cons rfl (fun K hK => ?_) AllReadyH.nil
      go_simp
      refine (refRecord_any xk p m c xb _ (BX1.out.below HB.out.drew) hCx.2.2 h1 h2 h3).mono ?_
      rintro e w1 ⟨v1, rfl, ho, hb⟩
      have OV1 := hide ((OV.out.below ((Below.refl _ wr).drew)).below hb)
      have BW : Below w.heap.size w w1 := HB.out.drew.trans (hb.mono HB.out.size)
      have HBW := hide BW
      obtain ⟨p1, c1, rfl, hr1, hcp1⟩ := ho.open HBY.out
      have RR := hide hr1
      clear ho hb hr1 OV
      try go_wp2_with fail
      refine hK.out _ _ ?hs12 (fun hS1 => ?_)
      case hs12 => exact BW
      clear hK K
      try simp only [Act.put, List.setIfInBounds_toArray, List.set_cons_zero, List.set_cons_succ]
      refine wpAnyH_ready (rs := [12]) (by kernel_rfl) (by simp) ?_
      refine AllReadyH.cons rfl (fun K hK => ?_) AllReadyH.nil
      rw [if_pos (by kernel_rfl)]
      refine append_bw _ _ rfl w.heap.size _ (bytesRs (l.take k)) (record xk xb) rfl OV1.out p1 _ c1 rfl hcp1.2.2 RR.out HLN.out HBW.out.size ?_
      intro v2 w2 ho2 hgr hbel
      have BW2 := hbel _ HBW.out
      have HBW2 := hide BW2
      have HO2 : Hid (Own w.heap.size w2 v2 (bytesRs (l.take (k + 1)))) := by
        unfold Hid
        rw [HTK.out]
        exact ho2
      clear ho2 hgr hbel OV1 RR HBW
      change K (Act.put _ (some 24) _) _
      refine hK.out _ _ ?hs13 (fun hS2 => ?_)
      case hs13 => exact BW2
      clear hK K
      try simp only [Act.put, List.setIfInBounds_toArray, List.set_cons_zero, List.set_cons_succ]
      refine takeInH 13 3 ?v14 rfl rfl (by kernel_rfl) (by kernel_rfl) (by kernel_rfl) (fun _ _ _ h => h) (by kernel_rfl) hS2 ?hy14 ?_
      case hy14 => (intro W hW; clear hW; go_simp; try rfl)
      simp only [Act.put, List.setIfInBounds_toArray, List.set_cons_zero, List.set_cons_succ]
      refine wpAnyH_done (by kernel_rfl) ?_ _
      go_wp2
      go_roundw
      case rel => exact ⟨k + 1, by omega, by go_num, HO2, HBW2⟩
      case measure => simp [intOf]; omega
    · have hkl : k = n := by omega
      subst hkl
      have q := OV.out
      rw [List.take_of_length_le (by rw [HV.out.len]; exact Nat.le_refl _)] at q
      have HO := hide q
      clear q
      go_wp2
      go_ret
      exact ⟨_, rfl, HO.out, HB.out⟩
set_option maxHeartbeats 4000000 in
theorem wholeRs_any (t : Int) (a : Option Addr) (n cap : Nat) (l : List Rc) (w : World) (h0 : 0 ≤ t) (h1 : t < 18446744073709551616) (hA : RC w a n l) (hM : ∀ x ∈ l, mayRc x = true) (hbig : (bytesRs l).length ≤ 100000000) : Calls Try.prog 25 #[.int .u64 t, .slice a n cap] w fun e w' => ∃ v, e = .returned v ∧ Own w.heap.size w' v (wholeRs t l) ∧ Below w.heap.size w w' := by
  have HV := hide hA
  have HMM := hide hM
  have HBIG := hide hbig
  have hbn : (num t).length ≤ 65536 := by rw [num_len]; have := nb_le t; omega
  have hbr : (record 1 (num t)).length ≤ 1000000 := by have := rec_le 1 (num t); omega
  have hbe : (record 2 []).length ≤ 1000 := by have := rec_le 2 []; simp only [List.length_nil] at this; omega
  have HBB := hide (bytesRs_by hM hA.byB)
  clear hA hM hbig
  go_enter Try.func25, Try.ntmps25
  go_wp2_with fail
  refine (refNum_as t w h0 h1).mono ?_
  rintro e w1 ⟨p1, c1, rfl, hb1, hc1, hl1⟩
  have B1 := hide hl1
  have N1 := hide hb1
  clear hl1 hb1
  go_wp2_with fail
  refine (refRecord_any 1 p1 _ c1 (num t) w1 N1.out hc1.2.2 (by decide) (by decide) hbn).mono ?_
  rintro e w2 ⟨v2, rfl, ho, hb⟩
  have O2 := hide (ho.mono B1.out.size)
  replace B1 := hide (bel_next B1.out hb)
  clear ho hb N1
  go_wp2_with fail
  refine (bytesRs_any a n cap l w2 (HV.out.bel B1.out) HMM.out HBIG.out).mono ?_
  rintro e w3 ⟨v3, rfl, ho, hb⟩
  replace O2 := hide (O2.out.below hb)
  replace B1 := hide (bel_next B1.out hb)
  obtain ⟨p3, c3, rfl, hr3, hcp3⟩ := ho.open HBB.out
  have R3 := hide hr3
  clear ho hb hr3
  go_wp2_with (at_builtin; refine Stop.at ?_)
  unfold Stop
  refine append_bytes rfl _ _ rfl w.heap.size _ (record 1 (num t)) (bytesRs l) rfl O2.out p3 _ c3 rfl hcp3.2.2 R3.out (by have := HBIG.out; omega) B1.out.size ?_
  intro v4 w4 ho hgr hbel
  have O4 := hide ho
  replace B1 := hide (hbel _ B1.out)
  clear ho hgr hbel O2 R3
  go_wp2_with fail
  refine (refRecord_any 2 none 0 0 [] w4 (BS.nil _ _) (fun _ => rfl) (by decide) (by decide) (by decide)).mono ?_
  rintro e w5 ⟨v5, rfl, ho, hb⟩
  replace O4 := hide (O4.out.below hb)
  replace B1 := hide (bel_next B1.out hb)
  obtain ⟨p5, c5, rfl, hr5, hcp5⟩ := ho.open (record_by (by decide) (by decide) By.nil)
  have R5 := hide hr5
  clear ho hb hr5
  go_wp2_with (at_builtin; refine Stop.at ?_)
  unfold Stop
  refine append_bytes rfl _ _ rfl w.heap.size _ (record 1 (num t) ++ bytesRs l) (record 2 []) rfl O4.out p5 _ c5 rfl hcp5.2.2 R5.out (by have := HBIG.out; rw [List.length_append]; omega) B1.out.size ?_
  intro v6 w6 ho hgr hbel
  have O6 := hide ho
  replace B1 := hide (hbel _ B1.out)
  clear ho hgr hbel O4 R5
  go_wp2
  go_ret
  exact ⟨_, rfl, O6.out, B1.out⟩
end Go.Proofs.Ytofalfaiamaapaa
