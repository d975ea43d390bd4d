/- The program's reading of a slot: its turn, and all that it has (layer 7). -/
import Derived.Test.YtofalfaiamaapaaQ1
namespace Go.Proofs.Ytofalfaiamaapaa
open Go.RowKit
set_option linter.unusedVariables false
set_option maxHeartbeats 4000000 in
theorem head_any (a : Option Addr) (n c : Nat) (l : List Int) (w : World) (hA : BS w a n l) (hC : CP a n c) : Calls Try.prog 49 #[.slice a n c] w fun e w' => e = .returned (.tuple #[.int .i64 (headP l).1, .int .i64 ((headP l).2 : Int)]) ∧ Below w.heap.size w w' := by
  have HA := hide hA
  have HC := hide hC
  have hby : By l := hA.2.2.1
  have hoff : ¬ ((getRecord l).2.2.2 = 0 ∧ (getRecord l).1 = 1) → headP l = (0, 0) := headP_off
  have hnone : getNum (getRecord l).2.1 = none → headP l = (0, 0) := headP_none
  have hnum := fun (h : (getRecord l).2.2.2 = 0 ∧ (getRecord l).1 = 1) (u : Int) (m : Nat) hn => headP_num h (u := u) (m := m) hn
  have hok := fun h => getRecord_ok hby h
  clear hA hC hby
  go_enter Try.func49, Try.ntmps49
  go_wp2_with fail
  refine (getRec_any _ _ _ l _ HA.out HC.out).mono ?_
  rintro e w1 ⟨v, rfl, ho, hb⟩
  generalize getRecord l = gr at *
  obtain ⟨rk, rb, rm, re⟩ := gr
  simp only [] at ho hok hoff hnone hnum ⊢
  have HB := hide hb
  have HO := hide ho
  clear ho hb
  by_cases hre : re = 0
  · subst hre
    by_cases hk : rk = 1
    · subst hk
      obtain ⟨o1, o2, o3, o4, o5, o6⟩ := hok rfl
      obtain ⟨pv, cv, rfl, hbs, hcp⟩ := HO.out.open o6
      have BSv := hide hbs
      have CPv := hide hcp
      have HG := fun (u : Int) (m : Nat) (h : getNum rb = some (u, m)) => getNum_some o6 h
      clear hoff hok hbs hcp o3 o4 o5 o6
      go_wp2_with fail
      refine (getNum_any _ _ _ rb _ BSv.out CPv.out).mono ?_
      rintro e w2 ⟨⟨hn, rfl⟩ | ⟨u, m, hn, rfl⟩, rfl⟩
      · have HR := hide (hnone hn)
        clear hnone hnum HG hn
        go_wp2
        refine bodyPost_ret (results_tmp2 rfl _ _ _) rfl ?_
        exact ⟨by rw [HR.out]; rfl, HB.out⟩
      · obtain ⟨g1, g2, g3, g4, g5, _⟩ := HG u m hn
        have HR := hide (hnum (by simp) u m hn)
        clear hnone hnum HG hn
        by_cases c1 : m < rb.length
        · replace HR := hide (HR.out.trans (if_pos (.inl c1)))
          have c1' : (m : Int) < (rb.length : Int) := by omega
          go_wp2
          refine bodyPost_ret (results_tmp2 rfl _ _ _) rfl ?_
          exact ⟨by rw [HR.out]; rfl, HB.out⟩
        · have c1' : ¬ (m : Int) < (rb.length : Int) := by omega
          by_cases c2 : 1099511627776 < u
          · replace HR := hide (HR.out.trans (if_pos (.inr c2)))
            have c2' : u > 1099511627776 := c2
            go_wp2
            refine bodyPost_ret (results_tmp2 rfl _ _ _) rfl ?_
            exact ⟨by rw [HR.out]; rfl, HB.out⟩
          · replace HR := hide (HR.out.trans (if_neg (fun h => h.elim c1 c2)))
            have c2' : ¬ u > 1099511627776 := c2
            go_wp2
            refine bodyPost_ret (results_tmp2 rfl _ _ _) rfl ?_
            exact ⟨by rw [HR.out]; rfl, HB.out⟩
    · have hk' : (rk != 1) = true := by simpa using hk
      have HR := hide (hoff (fun h => hk h.2))
      clear hoff hnone hnum hok hk
      go_wp2
      refine bodyPost_ret (results_tmp2 rfl _ _ _) rfl ?_
      exact ⟨by rw [HR.out]; rfl, HB.out⟩
  · have hre' : (re != 0) = true := by simpa using hre
    have HR := hide (hoff (fun h => hre h.1))
    clear hoff hnone hnum hok hre
    go_wp2
    refine bodyPost_ret (results_tmp2 rfl _ _ _) rfl ?_
    exact ⟨by rw [HR.out]; rfl, HB.out⟩
set_option maxHeartbeats 4000000 in
theorem whole_any (a : Option Addr) (n c : Nat) (l : List Int) (w : World) (hA : BS w a n l) (hC : CP a n c) (hn : n ≤ 400000) : Calls Try.prog 35 #[.slice a n c] w fun e w' => ∃ V xs, e = .returned (.tuple #[.int .i64 (scanRs l).1, V, .int .i64 ((scanRs l).2.2 : Int)]) ∧ RO w.heap.size w' V xs ∧ xs.map Rw.rc = (scanRs l).2.1 ∧ Below w.heap.size w w' := by
  have hby : By l := hA.2.2.1
  rw [scan_whole l hby]
  have HA := hide hA
  have HC := hide hC
  have hl := hide hA.1
  have HBY := hide hby
  have hcap := hC.1
  have hcm := hC.2.1
  unfold maxLen at hcm
  have hsl : ∀ i : Nat, (if c = i then a else Option.map (fun x => x.add i) a) = slA a c i := fun _ => rfl
  have hle := headP_le hby
  have hz := fun h => wholeP_zero (l := l) h
  have hw : (headP l).1 ≠ 0 → wholeP l = _ := fun h => by unfold wholeP; exact if_neg h
  clear hA hC hby
  go_enter Try.func35, Try.ntmps35
  go_wp2_with fail
  refine (head_any a n c l w HA.out HC.out).mono ?_
  rintro e w1 ⟨rfl, hb⟩
  have HB := hide hb
  generalize headP l = hp at *
  obtain ⟨t, m⟩ := hp
  simp only [] at hle hz hw ⊢
  obtain ⟨t0, t1, hm⟩ := hle
  rw [hl.out] at hm
  clear hb
  by_cases h0 : t = 0
  · have HZ := hide (hz h0)
    subst h0
    clear hz hw
    go_wp2
    refine bodyPost_ret (results_tmp3 rfl _ _ _) rfl ?_
    exact ⟨.slice none 0 0, [], by rw [HZ.out]; rfl, RO.nil _ _, by rw [HZ.out]; rfl, HB.out⟩
  · have HW := hide (hw h0)
    have h0' : (t == 0) = false := by simpa using h0
    clear hz hw h0
    have hmI : (m : Int) ≤ (n : Int) := by omega
    have hmc : (m : Int) ≤ (c : Int) := by omega
    have b1 := hide ((HA.out.below HB.out).rest (c := c) m hm (by omega))
    have p1 := hide (HC.out.cut m n (Nat.le_refl _) hm)
    go_wp2_with fail
    refine (records_any _ _ _ (l.drop m) _ b1.out p1.out (by omega)).mono ?_
    rintro e w2 ⟨V1, xs1, rfl, hr, hx, hb⟩
    have R1 := hide (hr.mono HB.out.size)
    have HX1 := hide hx
    replace HB := hide (bel_next HB.out hb)
    have hm1 := takeR_le ((l.drop m).length + 1) (l.drop m) (HBY.out.drop m)
    change (tk (l.drop m)).2 ≤ _ at hm1
    have hn1 := takeR_len ((l.drop m).length + 1) (l.drop m) (HBY.out.drop m)
    change (tk (l.drop m)).1.length ≤ _ at hn1
    rw [List.length_drop, hl.out] at hm1 hn1
    clear hr hx hb b1 p1
    generalize tk (l.drop m) = k1 at *
    obtain ⟨r1, m1⟩ := k1
    simp only [] at hm1 hn1 HX1 HW ⊢
    obtain ⟨q, hq⟩ : ∃ q : Nat, q = m + m1 := ⟨_, rfl⟩
    have hq0 : (l.drop m).drop m1 = l.drop q := by rw [List.drop_drop, hq]
    rw [hq0] at HW
    have hqI : (m : Int) + (m1 : Int) = (q : Int) := by omega
    have hqn : q ≤ n := by omega
    have hqn1 : (q : Int) ≤ (n : Int) := by omega
    have hqc : (q : Int) ≤ (c : Int) := by omega
    have b2 := hide ((HA.out.below HB.out).rest (c := c) q hqn (by omega))
    have p2 := hide (HC.out.cut q n (Nat.le_refl _) hqn)
    have HQ := hide hq
    obtain ⟨pV, cV, hV, _, _⟩ := R1.out.1.open encW_len
    subst hV
    generalize hnx : xs1.length = nx at *
    have HNX := hide hnx
    clear hnx hq hq0
    go_wp2_with fail
    refine (getRec_any _ _ _ (l.drop q) _ b2.out p2.out).mono ?_
    rintro e w3 ⟨v, rfl, ho, hb⟩
    have hok := fun h => getRecord_ok (HBY.out.drop q) h
    rw [List.length_drop, hl.out] at hok
    unfold endsAt at HW
    generalize getRecord (l.drop q) = gr at *
    obtain ⟨rk, rb, rm, re⟩ := gr
    simp only [] at ho hok HW ⊢
    replace R1 := hide (R1.out.below hb)
    have OB := hide ho
    replace HB := hide (bel_next HB.out hb)
    clear ho hb b2 p2
    by_cases hg : re = 0 ∧ rk = 2 ∧ rb.length = 0
    · replace HW := hide (HW.out.trans (if_pos hg))
      obtain ⟨hre, hk, hbl⟩ := hg
      subst hre hk
      obtain rfl : rb = [] := List.eq_nil_of_length_eq_zero hbl
      obtain ⟨o1, o2, _⟩ := hok rfl
      obtain ⟨pv, cv, rfl, _, _⟩ := OB.out.open By.nil
      clear hok hbl OB
      obtain ⟨s, hs⟩ : ∃ s : Nat, s = q + rm := ⟨_, rfl⟩
      have hs0 : (l.drop m).drop (m1 + rm) = l.drop s := by rw [List.drop_drop, hs, HQ.out, Nat.add_assoc]
      rw [hs0] at HW
      have hsI : (q : Int) + (rm : Int) = (s : Int) := by omega
      have hsn : s ≤ n := by omega
      have hsn1 : (s : Int) ≤ (n : Int) := by omega
      have hsc : (s : Int) ≤ (c : Int) := by omega
      have b3 := hide ((HA.out.below HB.out).rest (c := c) s hsn (by omega))
      have p3 := hide (HC.out.cut s n (Nat.le_refl _) hsn)
      have HS := hide hs
      clear hs hs0
      go_wp2_with fail
      refine (records_any _ _ _ (l.drop s) _ b3.out p3.out (by omega)).mono ?_
      rintro e w4 ⟨V2, xs2, rfl, hr, hx, hb⟩
      have R2 := hide (hr.mono HB.out.size)
      have HX2 := hide hx
      replace R1 := hide (R1.out.below hb)
      replace HB := hide (bel_next HB.out hb)
      have hn2 := takeR_len ((l.drop s).length + 1) (l.drop s) (HBY.out.drop s)
      change (tk (l.drop s)).1.length ≤ _ at hn2
      have hm2 := takeR_le ((l.drop s).length + 1) (l.drop s) (HBY.out.drop s)
      change (tk (l.drop s)).2 ≤ _ at hm2
      rw [List.length_drop, hl.out] at hn2 hm2
      clear hr hx hb b3 p3
      generalize tk (l.drop s) = k2 at *
      obtain ⟨r2, m2⟩ := k2
      simp only [] at hn2 hm2 HX2 HW ⊢
      obtain ⟨pW, cW, hV, hrs, hcw⟩ := R2.out.1.open encW_len
      subst hV
      have HRS := hide hrs
      have e1 : nx = r1.length := by rw [← HNX.out, ← HX1.out, List.length_map]
      have e2 : xs2.length = r2.length := by rw [← HX2.out, List.length_map]
      have hbig : xs1.length + xs2.length ≤ 1000000 := by have := HNX.out; omega
      have hsz := hide HB.out.size
      clear hrs
      generalize hny : xs2.length = ny at *
      have HNY := hide hny
      have HE2 := hide e2
      have HE1 := hide e1
      clear hny e1 e2
      go_wp2_with (at_builtin; refine Stop.at ?_)
      unfold Stop
      refine append_rows rfl _ _ 30 rfl Try.underlying30 Try.infoRec rfl (by decide) (by decide) encW_len oneW' w.heap.size _ xs1 xs2 rfl R1.out.1 pW ny cW rfl hcw.2.2 HRS.out (by have := HNY.out; omega) hsz.out ?_
      intro V3 w5 ho2 hg2 hbel2
      have R3 := hide (R1.out.app (fun x hx => R2.out.2 x hx) ho2 hg2)
      replace HB := hide (hbel2 _ HB.out)
      have HF : Hid (wholeP l = (t, (xs1 ++ xs2).map Rw.rc, s + m2)) := by
        unfold Hid
        rw [HW.out, List.map_append, HX1.out, HX2.out, HS.out, HQ.out]
        simp [Nat.add_assoc]
      clear ho2 hg2 hbel2 R1 R2 HRS
      go_wp2
      refine bodyPost_ret (results_tmp3 rfl _ _ _) rfl ?_
      exact ⟨V3, xs1 ++ xs2, by rw [HF.out]; simp, R3.out, by rw [HF.out], HB.out⟩
    · replace HW := hide (HW.out.trans (if_neg hg))
      by_cases hre : re = 0
      · subst hre
        by_cases hk : rk = 2
        · subst hk
          obtain ⟨o1, o2, o3, o4, o5, o6⟩ := hok rfl
          obtain ⟨pv, cv, rfl, _, _⟩ := OB.out.open o6
          have hbl : (rb.length : Int) > 0 := by
            have : rb.length ≠ 0 := fun h => hg ⟨rfl, rfl, h⟩
            omega
          clear hg hok o3 o4 o5 o6
          go_wp2
          refine bodyPost_ret (results_tmp3 rfl _ _ _) rfl ?_
          exact ⟨.slice none 0 0, [], by rw [HW.out]; rfl, RO.nil _ _, by rw [HW.out]; rfl, HB.out⟩
        · have hk' : (rk != 2) = true := by simpa using hk
          clear hg hok hk
          go_wp2
          refine bodyPost_ret (results_tmp3 rfl _ _ _) rfl ?_
          exact ⟨.slice none 0 0, [], by rw [HW.out]; rfl, RO.nil _ _, by rw [HW.out]; rfl, HB.out⟩
      · have hre' : (re != 0) = true := by simpa using hre
        clear hg hok hre
        go_wp2
        refine bodyPost_ret (results_tmp3 rfl _ _ _) rfl ?_
        exact ⟨.slice none 0 0, [], by rw [HW.out]; rfl, RO.nil _ _, by rw [HW.out]; rfl, HB.out⟩
end Go.Proofs.Ytofalfaiamaapaa
