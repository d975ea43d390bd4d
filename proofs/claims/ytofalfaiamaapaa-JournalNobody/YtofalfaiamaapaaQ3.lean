/- Records' bytes, and those of a slot that is renewed, as the program puts them (layer 7). -/
import Derived.Test.YtofalfaiamaapaaQ2
import Derived.Test.YtofalfaiamaapaaP3
namespace Go.Proofs.Ytofalfaiamaapaa
open Go.RowKit
set_option linter.unusedVariables false
/-- May all of them be? -/
def allMay (l : List Rc) : Bool := l.all mayRc
theorem allMay_iff (l : List Rc) : allMay l = true ↔ ∀ x ∈ l, mayRc x = true := List.all_eq_true
set_option maxHeartbeats 4000000 in
theorem bytesOf_any (a : Option Addr) (n cap : Nat) (l : List Rc) (w : World) (hA : RC w a n l) (hbig : (bytesRs l).length ≤ 100000000) : Calls Try.prog 43 #[.slice a n cap] w fun e w' => ((allMay l = true ∧ ∃ v, e = .returned (.tuple #[v, .int .i64 0]) ∧ Own w.heap.size w' v (bytesRs l)) ∨ (allMay l = false ∧ e = .returned (.tuple #[.slice none 0 0, .int .i64 1]))) ∧ Below w.heap.size w w' := by
  have HV := hide hA
  have hmx := hA.max
  unfold maxLen at hmx
  have HBIG := hide hbig
  clear hA hbig
  go_enter Try.func43, Try.ntmps43
  go_wp2
  go_loopw [4, 11] (fun v i wr => ∃ k : Nat, k ≤ n ∧ i = .int .i64 k ∧ Hid (Own w.heap.size wr v (bytesRs (l.take k))) ∧ Hid (∀ x ∈ l.take k, mayRc x = true) ∧ Hid (Below w.heap.size w wr)) (fun _ i _ => n - (intOf i).toNat)
  case atStart => exact ⟨0, by omega, rfl, Own.none _ _, (fun x hx => by simp at hx), Below.refl _ _⟩
  case round =>
    obtain ⟨k, hk, rfl, OV, HM, HB⟩ := hrel
    by_cases hlt : k < n
    · obtain ⟨b, off, rfl⟩ := HV.out.addr (by omega)
      obtain ⟨⟨xk, xb⟩, p, m, c, hx, hBx, hCx, c0, c1⟩ := (HV.out.bel HB.out).one k hlt
      simp only [] at c0 c1
      have hk0 : (0 : Int) ≤ (k : Int) := by omega
      have hk1 : (k : Int) < (n : Int) := by omega
      have hml : xb.length = m := hBx.1
      have hin : (⟨xk, xb⟩ : Rc) ∈ l := List.mem_of_getElem? hx
      have hbad : mayRc ⟨xk, xb⟩ = false → allMay l = false := by
        intro h
        unfold allMay
        rw [List.all_eq_false]
        exact ⟨_, hin, by rw [h]; simp⟩
      have HTK : Hid (l.take (k + 1) = l.take k ++ [⟨xk, xb⟩]) := take_snocR hx
      by_cases h10 : xk < 10
      · have HBAD := hide (hbad (by simp [mayRc]; omega))
        clear hx hin hbad
        go_wp2
        refine bodyPost_ret (results_tmp2 rfl _ _ _) rfl ?_
        exact ⟨.inr ⟨HBAD.out, rfl⟩, HB.out.alloc HB.out.size _⟩
      · by_cases hm : 200 < xk ∨ 65536 < m
        · have HBAD := hide (hbad (by simp [mayRc]; omega))
          clear hx hin hbad
          go_wp2_with fail
          refine (record_arg xk p m c _ (by omega)).mono ?_
          rintro e w1 ⟨rfl, rfl⟩
          go_wp2
          refine bodyPost_ret (results_tmp2 rfl _ _ _) rfl ?_
          exact ⟨.inr ⟨HBAD.out, rfl⟩, HB.out.alloc HB.out.size _⟩
        · have hmay : mayRc ⟨xk, xb⟩ = true := (mayRc_iff _).2 ⟨by simp only []; omega, by simp only []; omega, by simp only []; omega⟩
          have HLN : Hid ((bytesRs (l.take k)).length + (record xk xb).length ≤ 140737488355328) := by
            have q := bytesRs_take l (k + 1)
            rw [HTK.out, bytesRs_snoc, List.length_append] at q
            simp only [] at q
            have := HBIG.out
            unfold Hid
            omega
          have HM2 : Hid (∀ x ∈ l.take (k + 1), mayRc x = true) := by
            intro x hx
            rw [HTK.out] at hx
            rcases List.mem_append.1 hx with q | q
            · exact HM.out x q
            · rw [List.mem_singleton.1 q]; exact hmay
          have HBY : Hid (By (record xk xb)) := record_by (by omega) (by omega) hBx.2.2.1
          have BX1 := hide hBx
          have hCp := hide hCx.2.2
          obtain ⟨pv, cv, hv, _, _⟩ := OV.out.open (bytesRs_by HM.out (fun x hx => (HV.out.byB x (List.mem_of_mem_take hx))))
          subst hv
          generalize hnl : (bytesRs (l.take k)).length = nl at *
          have HNL := hide hnl
          have h1 : 1 ≤ xk := by omega
          have h2 : xk ≤ 200 := by omega
          have h3 : m ≤ 65536 := by omega
          clear hx hin hbad hBx hCx hmay hnl hm
          go_wp2_with fail
          refine (record_any xk p m c xb _ (BX1.out.below (bel1 _ _)) hCp.out h1 h2 h3).mono ?_
          rintro e w1 ⟨v1, rfl, ho, hb⟩
          have OV1 := hide ((OV.out.alloc _).below hb)
          have HB1 := hide (bel_next (HB.out.alloc HB.out.size _) hb)
          obtain ⟨p1, c1', rfl, hr1, hcp1⟩ := ho.open HBY.out
          have RR := hide hr1
          clear ho hb hr1 OV HB
          go_wp2_with (at_builtin; refine Stop.at ?_)
          unfold Stop
          refine append_bytes rfl _ _ rfl w.heap.size _ (bytesRs (l.take k)) (record xk xb) rfl OV1.out p1 _ c1' rfl hcp1.2.2 RR.out (by have := HLN.out; have := HNL.out; omega) HB1.out.size ?_
          intro v2 w2 ho2 hgr hbel
          have HB2 := hide (hbel _ HB1.out)
          have HO2 : Hid (Own w.heap.size w2 v2 (bytesRs (l.take (k + 1)))) := by
            unfold Hid
            rw [HTK.out, bytesRs_snoc]
            exact ho2
          clear ho2 hgr hbel OV1 RR HB1
          go_wp2
          go_roundw
          case rel => exact ⟨k + 1, by omega, by go_num, HO2, HM2, HB2⟩
          case measure => simp [intOf]; omega
    · have hkl : k = n := by omega
      subst hkl
      have q := OV.out
      have q2 := HM.out
      rw [List.take_of_length_le (by rw [HV.out.len]; exact Nat.le_refl _)] at q q2
      have HO := hide q
      have HA : Hid (allMay l = true) := by unfold Hid; rw [allMay_iff]; exact q2
      clear q q2 OV HM
      go_wp2
      refine bodyPost_ret (results_tmp2 rfl _ _ _) rfl ?_
      exact ⟨.inl ⟨HA.out, _, rfl, HO.out⟩, HB.out⟩
set_option maxHeartbeats 4000000 in
theorem framed_any (t : Int) (a : Option Addr) (n cap : Nat) (l : List Int) (w : World) (h0 : 0 ≤ t) (h1 : t ≤ 1099511627776) (hA : BS w a n l) (hC : CP a n cap) (hn : n ≤ 100000000) : Calls Try.prog 57 #[.int .i64 t, .slice a n cap] w fun e w' => ∃ v, e = .returned v ∧ Own w.heap.size w' v (record 1 (num t) ++ l ++ record 2 []) ∧ Below w.heap.size w w' := by
  have HA := hide hA
  have hC2 := hide hC.2.2
  have hbn : (num t).length ≤ 65536 := by rw [num_len]; have := nb_le t; omega
  have hbr : (record 1 (num t)).length ≤ 1000000 := by have := rec_le 1 (num t); omega
  have hbe : (record 2 []).length ≤ 1000 := by have := rec_le 2 []; simp only [List.length_nil] at this; omega
  have hln : l.length = n := hA.1
  have HLN := hide hln
  clear hA hC hln
  go_enter Try.func57, Try.ntmps57
  go_wp2_with fail
  refine (num_any t w h0 (by omega)).mono ?_
  rintro e w1 ⟨v1, rfl, ho, hb⟩
  obtain ⟨p1, c1, rfl, hb1, hc1⟩ := ho.open (num_by t)
  have B1 := hide hb
  have N1 := hide hb1
  clear hb hb1 ho
  go_wp2_with fail
  refine (record_any 1 p1 _ c1 (num t) w1 N1.out hc1.2.2 (by decide) (by decide) hbn).mono ?_
  rintro e w2 ⟨v2, rfl, ho, hb⟩
  have O2 := hide (ho.mono B1.out.size)
  replace B1 := hide (bel_next B1.out hb)
  obtain ⟨p2, c2, rfl, _, _⟩ := ho.open (record_by (by decide) (by decide) (num_by t))
  have L2 := hide (fun b hb => (ho.lt b hb).2)
  clear ho hb N1
  go_wp2_with fail
  refine (record_any 2 none 0 0 [] w2 (BS.nil _ _) (fun _ => rfl) (by decide) (by decide) (by decide)).mono ?_
  rintro e w3 ⟨v3, rfl, ho, hb⟩
  replace O2 := hide (O2.out.below hb)
  replace B1 := hide (bel_next B1.out hb)
  obtain ⟨p5, c5, rfl, _, hcp5⟩ := ho.open (record_by (by decide) (by decide) By.nil)
  have O5 := hide ho
  clear ho hb
  go_wp2_with (at_builtin; refine Stop.at ?_)
  unfold Stop
  refine append_bytes rfl _ _ rfl w.heap.size _ (record 1 (num t)) l rfl O2.out a n cap rfl hC2.out (HA.out.below B1.out) (by have := HLN.out; omega) B1.out.size ?_
  intro v4 w4 ho hgr hbel
  have O4 := hide ho
  have R6 := hide ((O5.out.grown hgr (fun b q1 q2 => by have := (O5.out.lt b q1).1; have := L2.out b q2; omega)).sl (record_by (by decide) (by decide) By.nil)).1
  replace B1 := hide (hbel _ B1.out)
  clear ho hgr hbel O2 O5 L2
  go_wp2_with (at_builtin; refine Stop.at ?_)
  unfold Stop
  refine append_bytes rfl _ _ rfl w.heap.size _ (record 1 (num t) ++ l) (record 2 []) rfl O4.out p5 _ c5 rfl hcp5.2.2 R6.out (by have := HLN.out; rw [List.length_append]; omega) B1.out.size ?_
  intro v6 w6 ho hgr hbel
  have O6 := hide ho
  replace B1 := hide (hbel _ B1.out)
  clear ho hgr hbel O4 R6
  go_wp2
  go_ret
  exact ⟨_, rfl, O6.out, B1.out⟩
end Go.Proofs.Ytofalfaiamaapaa
