/- A line by the document (layer 15). -/
import Derived.Test.YtadmibfnjhockaaDoorN3
namespace Go.Proofs.YtadmibfnjhockaaDoor
open Go.RowKit Go.Lib
set_option linter.unusedVariables false
/-- What is no word has no text. -/
def Txt0 (l : List Tk) : Prop := ∀ (i : Nat) t, l[i]? = some t → t.1 ≠ 1 → t.2.1 = ⟨#[]⟩
theorem tx_at {w : World} {b off n : Nat} {l : List Tk} (hA : KS w (some ⟨b, off, none⟩) n l) (hq : Txt0 l) {i : Nat} (hi : i < n) : w.cell? ⟨b, off + i * 4 + 1, none⟩ = some (.string (txtU l i)) ∧ w.cell? ⟨b, off + i * 4 + 2, none⟩ = some (.int .i64 (numU l i)) := by
  obtain ⟨kd, tx, nn, ln, hx, _, c1, c2, _⟩ := hA.at i hi
  refine ⟨?_, by unfold numU; rw [hx]; exact c2⟩
  rw [txtU_at hx]
  by_cases hk : kd = 1
  · rw [if_pos hk]
    exact c1
  · have e := hq i _ hx hk
    simp only at e
    subst e
    rw [if_neg hk]
    exact c1
def thL : List ByteArray := [⟨#[115, 101, 116]⟩, ⟨#[99, 111, 117, 110, 116]⟩, ⟨#[110, 111, 116, 101]⟩]
def isTh (s : ByteArray) : Prop := s = ⟨#[115, 101, 116]⟩ ∨ s = ⟨#[99, 111, 117, 110, 116]⟩ ∨ s = ⟨#[110, 111, 116, 101]⟩
theorem th_mem {s : ByteArray} {i : Nat} (h : thL[i]? = some s) : isTh s ∧ (if s = ⟨#[115, 101, 116]⟩ then (1 : Int) else if s = ⟨#[99, 111, 117, 110, 116]⟩ then 2 else 3) = 1 + (i : Int) := by
  rcases i with _ | _ | _ | i
  · cases h; exact ⟨.inl rfl, rfl⟩
  · cases h; exact ⟨.inr (.inl rfl), rfl⟩
  · cases h; exact ⟨.inr (.inr rfl), rfl⟩
  · cases h
theorem th_all {s : ByteArray} (h : ∀ (j : Nat) x, j < 3 → thL[j]? = some x → s ≠ x) : ¬ isTh s := by
  rintro (rfl | rfl | rfl)
  · exact h 0 _ (by decide) rfl rfl
  · exact h 1 _ (by decide) rfl rfl
  · exact h 2 _ (by decide) rfl rfl
theorem dcl_th0 {l : List Tk} (h : isTh (txtU l 0)) (hn : namU l 1 = false) : dclU l = ((0, false, ⟨#[]⟩, ⟨#[]⟩, 0, [], 0), 1, false) := by
  unfold dclU
  simp only
  rw [if_pos (show _ ∨ _ ∨ _ from h), if_neg (by rw [hn]; decide)]
theorem dcl_th1 {l : List Tk} {i : Nat} (h : thL[i]? = some (txtU l 0)) (hn : namU l 1 = true) : dclU l = ((1 + (i : Int), false, txtU l 1, ⟨#[]⟩, 0, [], 0), 2, true) := by
  have q := th_mem h
  unfold dclU
  simp only
  rw [if_pos (show _ ∨ _ ∨ _ from q.1), if_pos hn, q.2]
theorem dcl_op {l : List Tk} (h : txtU l 0 = ⟨#[111, 112]⟩) : dclU l = opR l 1 := by
  unfold dclU opR
  simp only
  rw [if_neg (by rw [h]; decide), if_pos h]
theorem dcl_no {l : List Tk} (h : ¬ isTh (txtU l 0)) (h2 : txtU l 0 ≠ ⟨#[111, 112]⟩) (h3 : txtU l 0 ≠ ⟨#[114, 117, 108, 101]⟩) : dclU l = ((0, false, ⟨#[]⟩, ⟨#[]⟩, 0, [], 0), 0, false) := by
  unfold dclU
  simp only
  rw [if_neg (show ¬ (_ ∨ _ ∨ _) from h), if_neg h2, if_neg h3]
/-- A rule's line, from its word on; st: is it strict. -/
def rlR (l : List Tk) (st : Bool) (i : Nat) : Dc × Nat × Bool :=
  if (ruleU (txtU l i)).1 = 0 then ((0, st, ⟨#[]⟩, ⟨#[]⟩, 0, [], 0), i, false)
  else if frmU l (i + 1) (ruleU (txtU l i)).2 < 2 then ((0, st, ⟨#[]⟩, ⟨#[]⟩, 0, [], 0), i + 1 + frmU l (i + 1) (ruleU (txtU l i)).2, false)
  else (((ruleU (txtU l i)).1, st, txtU l (i + 1), txtU l (i + 2), numU l (i + 2), [], 0), i + 3, true)
theorem dcl_rl {l : List Tk} (h : txtU l 0 = ⟨#[114, 117, 108, 101]⟩) (st : Bool) (hs : decide (txtU l 1 = ⟨#[115, 116, 114, 105, 99, 116]⟩) = st) : dclU l = rlR l st (if st = true then 2 else 1) := by
  unfold dclU rlR
  simp only
  rw [if_neg (by rw [h]; decide), if_neg (by rw [h]; decide), if_pos h, hs]
theorem frm_two {l : List Tk} {i k : Nat} {c d : Int} (h : frmU l i [c, d] = k) (hk : 2 ≤ k) : i + 1 < l.length := by
  have e : frmU l i [c, d] = if (if c = 110 then namU l i else isU l i 2) = true then (if (if d = 110 then namU l (i + 1) else isU l (i + 1) 2) = true then 0 + 1 else 0) + 1 else 0 := rfl
  rw [e] at h
  by_cases h2 : (if d = 110 then namU l (i + 1) else isU l (i + 1) 2) = true
  · by_cases hd : d = 110
    · rw [if_pos hd] at h2
      exact namU_lt h2
    · rw [if_neg hd] at h2
      exact isU_lt h2
  · rw [if_neg h2] at h
    generalize (if c = 110 then namU l i else isU l i 2) = t1 at h
    cases t1
    · rw [if_neg (by decide)] at h
      omega
    · rw [if_pos rfl] at h
      omega
theorem ruleU_cases (s : ByteArray) : (ruleU s).1 = 0 ∨ ∃ kd : Int, kd ≠ 0 ∧ (ruleU s = (kd, [110, 110]) ∨ ruleU s = (kd, [110, 100])) := by
  unfold ruleU
  split
  · exact .inr ⟨4, by decide, .inl rfl⟩
  split
  · exact .inr ⟨5, by decide, .inl rfl⟩
  split
  · exact .inr ⟨9, by decide, .inl rfl⟩
  split
  · exact .inr ⟨6, by decide, .inr rfl⟩
  split
  · exact .inr ⟨7, by decide, .inr rfl⟩
  split
  · exact .inr ⟨8, by decide, .inr rfl⟩
  · exact .inl rfl
set_option maxRecDepth 2000 in
set_option maxHeartbeats 8000000 in
theorem decl15 (a : Option Addr) (n cap : Nat) (l : List Tk) (w : World) (hA : KS w a n l) (hq0 : Txt0 l) : Calls Tryd.prog 17 #[.slice a n cap] w fun e w' => ∃ (d : Dc) (p : Option Addr) (c at' : Nat) (ok : Bool), e = .returned (.tuple #[.agg (decV d p d.2.2.2.2.2.1.length c), .int .i64 at', .bool ok]) ∧ dclU l = (d, at', ok) ∧ OwnDd w.heap.size w' (.slice p d.2.2.2.2.2.1.length c) d.2.2.2.2.2.1 ∧ Below w.heap.size w w' := by
  have HK0 := hide hA
  have HQ := hide hq0
  clear hq0
  obtain ⟨s, hs⟩ : ∃ s, txtU l 0 = s := ⟨_, rfl⟩
  have HS := hide hs
  have HT0 : Hid (∀ W, KS W a n l → Calls Tryd.prog 28 #[.slice a n cap, .int .i64 0] W fun e w' => e = .returned (.string s) ∧ w' = W) := fun W h => by
    have q := text15 a n cap l 0 W h (by omega)
    rw [hs] at q
    exact q
  have HB : Hid (Below w.heap.size w ((w.alloc (.cells #[.int .i64 0, .bool false, .string ⟨#[]⟩, .string ⟨#[]⟩, .int .i64 0, .slice none 0 0, .int .i64 0] 32)).alloc (.cells #[.string ⟨#[115, 101, 116]⟩, .string ⟨#[99, 111, 117, 110, 116]⟩, .string ⟨#[110, 111, 116, 101]⟩] 9))) := bel_next (bel1 w _) (bel1 _ _)
  have HX2 : Hid (BX ((w.alloc (.cells #[.int .i64 0, .bool false, .string ⟨#[]⟩, .string ⟨#[]⟩, .int .i64 0, .slice none 0 0, .int .i64 0] 32)).alloc (.cells #[.string ⟨#[115, 101, 116]⟩, .string ⟨#[99, 111, 117, 110, 116]⟩, .string ⟨#[110, 111, 116, 101]⟩] 9)) w.heap.size #[.int .i64 0, .bool false, .string ⟨#[]⟩, .string ⟨#[]⟩, .int .i64 0, .slice none 0 0, .int .i64 0] 32) := (BX.new w _ rfl _ _).below (bel1 _ _)
  have HTS : Hid (RS encSt 1 ((w.alloc (.cells #[.int .i64 0, .bool false, .string ⟨#[]⟩, .string ⟨#[]⟩, .int .i64 0, .slice none 0 0, .int .i64 0] 32)).alloc (.cells #[.string ⟨#[115, 101, 116]⟩, .string ⟨#[99, 111, 117, 110, 116]⟩, .string ⟨#[110, 111, 116, 101]⟩] 9)) (some ⟨w.heap.size + 1, 0, none⟩) 3 thL) := RS.new encSt_len _ _ (by simp) thL _ rfl 9 (0, 0) 3 rfl (by decide)
  have HK := hide (hA.below (bel1 w (.cells #[.int .i64 0, .bool false, .string ⟨#[]⟩, .string ⟨#[]⟩, .int .i64 0, .slice none 0 0, .int .i64 0] 32)))
  clear hA hs
  go_enter Tryd.func17, Tryd.ntmps17
  go_upto_region 3 with (go_at_call 28; refine (HT0.out _ HK.out).mono ?_; rintro e wi ⟨rfl, hw9⟩; have hw8 := hw9.symm; subst hw8; clear hw9)
  replace HK := hide (HK0.out.below HB.out)
  generalize (w.alloc (.cells #[.int .i64 0, .bool false, .string ⟨#[]⟩, .string ⟨#[]⟩, .int .i64 0, .slice none 0 0, .int .i64 0] 32)).alloc (.cells #[.string ⟨#[115, 101, 116]⟩, .string ⟨#[99, 111, 117, 110, 116]⟩, .string ⟨#[110, 111, 116, 101]⟩] 9) = w2 at *
  go_wp2
  go_loopw [7] (fun v wr => ∃ i : Nat, i ≤ 3 ∧ v = .int .i64 i ∧ Hid (∀ (j : Nat) x, j < i → thL[j]? = some x → s ≠ x) ∧ wr = w2) (fun v _ => 3 - (intOf v).toNat)
  case atStart => exact ⟨0, by omega, rfl, fun j x h => by omega, rfl⟩
  case round =>
    obtain ⟨i, hi, rfl, HF, hww⟩ := hrel
    have hww2 := hww.symm
    subst hww2
    clear hww
    by_cases hlt : i < 3
    · have hi0 : (0 : Int) ≤ (i : Int) := by omega
      have hi1 : (i : Int) < 3 := by omega
      have hx : thL[i]? = some thL[i] := List.getElem?_eq_getElem (show i < thL.length from hlt)
      have c0 := HTS.out.cells i (.string thL[i]) (by rw [show thL.flatMap encSt = thL.map (fun x => Value.string x) from rfl, List.getElem?_map, hx]; rfl) encSt_len (by decide)
      rw [Nat.zero_add] at c0
      generalize thL[i] = x at c0 hx
      have hq := eqK s x
      by_cases he : s = x
      · rw [decide_eq_true he] at hq
        have HTH := hide hx
        subst he
        rcases hnm : namU l 1 with _ | _
        · have HR : Hid (dclU l = ((0, false, ⟨#[]⟩, ⟨#[]⟩, 0, [], 0), 1, false)) := dcl_th0 (by rw [HS.out]; exact (th_mem HTH.out).1) hnm
          have HNM : Hid (∀ W, KS W a n l → Calls Tryd.prog 29 #[.slice a n cap, .int .i64 1] W fun e w' => e = .returned (.bool false) ∧ Below W.heap.size W w') := fun W h => by
            have q := name15 a n cap l 1 W h (by omega)
            rw [hnm] at q
            exact q
          clear hnm hx
          go_upto_region 8 with (go_at_call 29; refine (HNM.out _ HK.out).mono ?_; rintro e w3 ⟨rfl, hb⟩; replace HX2 := hide (HX2.out.below hb); replace HK := hide (HK.out.below hb); replace HB := hide (bel_next HB.out hb); clear hb)
          have z0 := HX2.out.cell 0 _ rfl
          have y0 := HX2.out.free 0
          have z1 := HX2.out.cell 1 _ rfl
          have y1 := HX2.out.free 1
          have z2 := HX2.out.cell 2 _ rfl
          have y2 := HX2.out.free 2
          have z3 := HX2.out.cell 3 _ rfl
          have y3 := HX2.out.free 3
          have z4 := HX2.out.cell 4 _ rfl
          have y4 := HX2.out.free 4
          have z5 := HX2.out.cell 5 _ rfl
          have y5 := HX2.out.free 5
          have z6 := HX2.out.cell 6 _ rfl
          have y6 := HX2.out.free 6
          go_wp2
          refine bodyPost_ret (results_ctt rfl _ _ _ _ _ _ _ _ _ rfl rfl rfl (HX2.out.put7 _ _ _ _ _ _ _).1 Tryd.underlying32 rfl Tryd.sizeDc) rfl ?_
          exact ⟨(0, false, ⟨#[]⟩, ⟨#[]⟩, 0, [], 0), none, 0, _, _, rfl, HR.out, OwnR.nil _ _, bel_put7 HB.out (Nat.le_refl _) _ _ _ _ _ _ _⟩
        · have HR : Hid (dclU l = ((1 + (i : Int), false, txtU l 1, ⟨#[]⟩, 0, [], 0), 2, true)) := dcl_th1 (by rw [HS.out]; exact HTH.out) hnm
          have HNM : Hid (∀ W, KS W a n l → Calls Tryd.prog 29 #[.slice a n cap, .int .i64 1] W fun e w' => e = .returned (.bool true) ∧ Below W.heap.size W w') := fun W h => by
            have q := name15 a n cap l 1 W h (by omega)
            rw [hnm] at q
            exact q
          have HIX := hide (nam_is1 hnm)
          clear hnm hx
          go_upto_region 9 with (go_at_call 29; refine (HNM.out _ HK.out).mono ?_; rintro e w3 ⟨rfl, hb⟩; replace HX2 := hide (HX2.out.below hb); replace HK := hide (HK.out.below hb); replace HB := hide (bel_next HB.out hb); clear hb)
          obtain ⟨b, off, hbo, hlt, c1⟩ := is_at HK.out HIX.out
          subst hbo
          have hl1 : (1 : Int) < (n : Int) := by omega
          obtain ⟨t1, ht1⟩ : ∃ t1, txtU l 1 = t1 := ⟨_, rfl⟩
          rw [ht1] at HR c1
          have c1a : w3.cell? ⟨b, off + 5, none⟩ = some (.string t1) := c1
          have c1b : w3.cell? ⟨b, off + 4 + 1, none⟩ = some (.string t1) := c1
          clear ht1
          have z0 := HX2.out.cell 0 _ rfl
          have y0 := HX2.out.free 0
          have z1 := HX2.out.cell 1 _ rfl
          have y1 := HX2.out.free 1
          have z2 := HX2.out.cell 2 _ rfl
          have y2 := HX2.out.free 2
          have z3 := HX2.out.cell 3 _ rfl
          have y3 := HX2.out.free 3
          have z4 := HX2.out.cell 4 _ rfl
          have y4 := HX2.out.free 4
          have z5 := HX2.out.cell 5 _ rfl
          have y5 := HX2.out.free 5
          have z6 := HX2.out.cell 6 _ rfl
          have y6 := HX2.out.free 6
          go_wp2
          refine bodyPost_ret (results_ctt rfl _ _ _ _ _ _ _ _ _ rfl rfl rfl (HX2.out.put7 _ _ _ _ _ _ _).1 Tryd.underlying32 rfl Tryd.sizeDc) rfl ?_
          exact ⟨(1 + (i : Int), false, t1, ⟨#[]⟩, 0, [], 0), none, 0, _, _, rfl, HR.out, OwnR.nil _ _, bel_put7 HB.out (Nat.le_refl _) _ _ _ _ _ _ _⟩
      · rw [decide_eq_false he] at hq
        have HF1 : Hid (∀ (j : Nat) y, j < i + 1 → thL[j]? = some y → s ≠ y) := fun j y hj hy => by
          by_cases e : j = i
          · subst e
            rw [hx] at hy
            cases hy
            exact he
          · exact HF.out j y (by omega) hy
        clear hx he
        go_wp2
        go_roundw
        case rel => exact ⟨i + 1, by omega, by go_num, HF1, by trivial⟩
        case measure => simp [intOf]; omega
    · obtain rfl : i = 3 := by omega
      have HTN := hide (th_all HF.out)
      clear HF
      have qop0 := eqK s ⟨#[111, 112]⟩
      rw [ByteArray.toList_eq ⟨#[111, 112]⟩] at qop0
      have qop : (s.toList == [111, 112]) = decide (s = ⟨#[111, 112]⟩) := qop0
      have qru0 := eqK s ⟨#[114, 117, 108, 101]⟩
      rw [ByteArray.toList_eq ⟨#[114, 117, 108, 101]⟩] at qru0
      have qru : (s.toList == [114, 117, 108, 101]) = decide (s = ⟨#[114, 117, 108, 101]⟩) := qru0
      clear qop0 qru0
      by_cases hop : s = ⟨#[111, 112]⟩
      · rw [decide_eq_true hop] at qop
        have HR : Hid (dclU l = opR l 1) := dcl_op (by rw [HS.out]; assumption)
        have HOP : Hid (∀ W, KS W a n l → Calls Tryd.prog 30 #[.slice a n cap, .int .i64 1] W fun e w' => ∃ (d : Dc) (p : Option Addr) (c at' : Nat) (ok : Bool), e = .returned (.tuple #[.agg (decV d p d.2.2.2.2.2.1.length c), .int .i64 at', .bool ok]) ∧ opR l 1 = (d, at', ok) ∧ OwnDd W.heap.size w' (.slice p d.2.2.2.2.2.1.length c) d.2.2.2.2.2.1 ∧ Below W.heap.size W w') := fun W h => oper15 a n cap l 1 W h (by omega)
        have hnw := HB.out.size
        clear hop
        go_upto_region 11 with fail
        go_wp2_with (go_at_call 30; refine (HOP.out _ HK.out).mono ?_; rintro e w3 ⟨⟨k1, k2, k3, k4, k5, k6, k7⟩, p, c, at', ok, rfl, hr, ho, hb⟩; replace HX2 := hide (HX2.out.below hb); replace HK := hide (HK.out.below hb); replace HB := hide (bel_next HB.out hb); have HO := hide (OwnR.mono ho hnw); have HRS := hide hr; clear hr ho hb; have z0 := HX2.out.cell 0 _ rfl; have y0 := HX2.out.free 0; have z1 := HX2.out.cell 1 _ rfl; have y1 := HX2.out.free 1; have z2 := HX2.out.cell 2 _ rfl; have y2 := HX2.out.free 2; have z3 := HX2.out.cell 3 _ rfl; have y3 := HX2.out.free 3; have z4 := HX2.out.cell 4 _ rfl; have y4 := HX2.out.free 4; have z5 := HX2.out.cell 5 _ rfl; have y5 := HX2.out.free 5; have z6 := HX2.out.cell 6 _ rfl; have y6 := HX2.out.free 6; unfold decV)
        refine bodyPost_ret (results_ctt rfl _ _ _ _ _ _ _ _ _ rfl rfl rfl (HX2.out.put7 _ _ _ _ _ _ _).1 Tryd.underlying32 rfl Tryd.sizeDc) rfl ?_
        exact ⟨(k1, k2, k3, k4, k5, k6, k7), p, c, at', ok, rfl, by rw [HR.out, HRS.out], HO.out.set7 (HO.out.off HX2.out tyDE) _ _ _ _ _ _ _, bel_put7 HB.out (Nat.le_refl _) _ _ _ _ _ _ _⟩
      · rw [decide_eq_false hop] at qop
        by_cases hru : s = ⟨#[114, 117, 108, 101]⟩
        · rw [decide_eq_true hru] at qru
          obtain ⟨s1, hs1⟩ : ∃ s1, txtU l 1 = s1 := ⟨_, rfl⟩
          have HT1 : Hid (∀ W, KS W a n l → Calls Tryd.prog 28 #[.slice a n cap, .int .i64 1] W fun e w' => e = .returned (.string s1) ∧ w' = W) := fun W h => by
            have q := text15 a n cap l 1 W h (by omega)
            rw [hs1] at q
            exact q
          have qst0 := eqK s1 ⟨#[115, 116, 114, 105, 99, 116]⟩
          rw [ByteArray.toList_eq ⟨#[115, 116, 114, 105, 99, 116]⟩] at qst0
          have qst : (s1.toList == [115, 116, 114, 105, 99, 116]) = decide (s1 = ⟨#[115, 116, 114, 105, 99, 116]⟩) := qst0
          clear qst0
          rcases hst : decide (s1 = ⟨#[115, 116, 114, 105, 99, 116]⟩) with _ | _
          · rw [hst] at qst
            have HR : Hid (dclU l = rlR l false 1) := dcl_rl (by rw [HS.out]; exact hru) false (by rw [hs1]; exact hst)
            have R9 := bel1 w2 (.cells #[.int .i64 0, .bool false, .string ⟨#[]⟩, .string ⟨#[]⟩, .int .i64 0, .slice none 0 0, .int .i64 0] 32)
            have HX9 : Hid (BX (w2.alloc (.cells #[.int .i64 0, .bool false, .string ⟨#[]⟩, .string ⟨#[]⟩, .int .i64 0, .slice none 0 0, .int .i64 0] 32)) w2.heap.size #[.int .i64 0, .bool false, .string ⟨#[]⟩, .string ⟨#[]⟩, .int .i64 0, .slice none 0 0, .int .i64 0] 32) := BX.new w2 _ rfl _ _
            go_upto_region 16 with (go_at_call 28; refine (HT1.out _ HK.out).mono ?_; rintro e wi ⟨rfl, hw9⟩; have hw8 := hw9.symm; subst hw8; clear hw9)
            have hg9 : w2.heap.size ≠ w.heap.size := by have := HX2.out.size; omega
            have hgN : w.heap.size ≤ w2.heap.size := HB.out.size
            replace HX2 := hide (HX2.out.below R9)
            replace HK := hide (HK.out.below R9)
            replace HB := hide (bel_next HB.out R9)
            clear R9
            generalize w2.heap.size = g9 at *
            generalize w2.alloc (.cells #[.int .i64 0, .bool false, .string ⟨#[]⟩, .string ⟨#[]⟩, .int .i64 0, .slice none 0 0, .int .i64 0] 32) = w5 at *
            have e9 := HX9.out.cell 1 _ rfl
            rcases ruleU_cases s1 with hk0 | ⟨kd, hkd, hde⟩
            · have HRU : Hid (∀ W, Calls Tryd.prog 31 #[.string s1] W fun e w' => e = .returned (.tuple #[.int .i64 0, .string (strOfNums (ruleU s1).2)]) ∧ w' = W) := fun W => by
                have q := rule15 s1 W
                rw [hk0] at q
                exact q
              have HRS : Hid (dclU l = ((0, false, ⟨#[]⟩, ⟨#[]⟩, 0, [], 0), 1, false)) := by
                unfold Hid
                rw [HR.out]
                unfold rlR
                rw [if_pos (by rw [hs1]; exact hk0)]
              generalize strOfNums (ruleU s1).2 = FM at HRU
              clear hk0 hs1
              go_upto_region 20 with (first | (go_at_call 28; refine (HT1.out _ HK.out).mono ?_; rintro e wi ⟨rfl, hw9⟩; have hw8 := hw9.symm; subst hw8; clear hw9) | (go_at_call 31; refine (HRU.out _).mono ?_; rintro e wi ⟨rfl, hw9⟩; have hw8 := hw9.symm; subst hw8; clear hw9))
              have c0 := HX9.out.cell 0 _ rfl
              have c1 := HX9.out.cell 1 _ rfl
              have c2 := HX9.out.cell 2 _ rfl
              have c3 := HX9.out.cell 3 _ rfl
              have c4 := HX9.out.cell 4 _ rfl
              have c5 := HX9.out.cell 5 _ rfl
              have c6 := HX9.out.cell 6 _ rfl
              have z0 := HX2.out.cell 0 _ rfl
              have y0 := HX2.out.free 0
              have z1 := HX2.out.cell 1 _ rfl
              have y1 := HX2.out.free 1
              have z2 := HX2.out.cell 2 _ rfl
              have y2 := HX2.out.free 2
              have z3 := HX2.out.cell 3 _ rfl
              have y3 := HX2.out.free 3
              have z4 := HX2.out.cell 4 _ rfl
              have y4 := HX2.out.free 4
              have z5 := HX2.out.cell 5 _ rfl
              have y5 := HX2.out.free 5
              have z6 := HX2.out.cell 6 _ rfl
              have y6 := HX2.out.free 6
              go_wp2
              refine bodyPost_ret (results_ctt rfl _ _ _ _ _ _ _ _ _ rfl rfl rfl (HX2.out.put7 _ _ _ _ _ _ _).1 Tryd.underlying32 rfl Tryd.sizeDc) rfl ?_
              exact ⟨(0, false, ⟨#[]⟩, ⟨#[]⟩, 0, [], 0), none, 0, _, _, rfl, HRS.out, OwnR.nil _ _, bel_put7 HB.out (Nat.le_refl _) _ _ _ _ _ _ _⟩
            · rcases hde with hde | hde
              · have HRU : Hid (∀ W, Calls Tryd.prog 31 #[.string s1] W fun e w' => e = .returned (.tuple #[.int .i64 kd, .string (strOfNums [110, 110])]) ∧ w' = W) := fun W => by
                  have q := rule15 s1 W
                  rw [hde] at q
                  exact q
                have HNS : Hid (∀ W, KS W a n l → Calls Tryd.prog 32 #[.slice a n cap, .int .i64 2, .string (strOfNums [110, 110])] W fun e w' => e = .returned (.int .i64 (frmU l 2 [110, 110])) ∧ Below W.heap.size W w') := fun W h => by
                  have q := names15 a n cap l 2 (strOfNums [110, 110]) W h (by omega) (by decide) (by decide)
                  rw [bytes_str (l := [110, 110]) (by intro c hc; simp at hc; omega)] at q
                  exact q
                have g0 : (kd == 0) = false := by simpa using hkd
                have HRL : Hid (rlR l false 1 = if frmU l 2 [110, 110] < 2 then ((0, false, ⟨#[]⟩, ⟨#[]⟩, 0, [], 0), 1 + 1 + frmU l 2 [110, 110], false) else ((kd, false, txtU l 2, txtU l 3, numU l 3, [], 0), 4, true)) := by
                  unfold Hid rlR
                  rw [show txtU l 1 = s1 from hs1, hde, if_neg hkd]
                by_cases hk : frmU l 2 [110, 110] < 2
                · obtain ⟨kk, hkk⟩ : ∃ kk, frmU l 2 [110, 110] = kk := ⟨_, rfl⟩
                  have HRS : Hid (dclU l = ((0, false, ⟨#[]⟩, ⟨#[]⟩, 0, [], 0), 1 + 1 + kk, false)) := by unfold Hid; rw [HR.out, HRL.out, if_pos hk, hkk]
                  rw [hkk] at HNS hk
                  have hk1 : (kk : Int) < 2 := by omega
                  have hk2 : (0 : Int) ≤ (kk : Int) := by omega
                  generalize strOfNums [110, 110] = FM at HRU HNS
                  clear hkk hk hde hkd hs1 HRL
                  go_upto_region 23 with (first | (go_at_call 28; refine (HT1.out _ HK.out).mono ?_; rintro e wi ⟨rfl, hw9⟩; have hw8 := hw9.symm; subst hw8; clear hw9) | (go_at_call 31; refine (HRU.out _).mono ?_; rintro e wi ⟨rfl, hw9⟩; have hw8 := hw9.symm; subst hw8; clear hw9) | (go_at_call 32; refine (HNS.out _ HK.out).mono ?_; rintro e w6 ⟨rfl, hb⟩; replace HX2 := hide (HX2.out.below hb); replace HX9 := hide (HX9.out.below hb); replace HK := hide (HK.out.below hb); replace HB := hide (bel_next HB.out hb); clear hb))
                  have c0 := HX9.out.cell 0 _ rfl
                  have c1 := HX9.out.cell 1 _ rfl
                  have c2 := HX9.out.cell 2 _ rfl
                  have c3 := HX9.out.cell 3 _ rfl
                  have c4 := HX9.out.cell 4 _ rfl
                  have c5 := HX9.out.cell 5 _ rfl
                  have c6 := HX9.out.cell 6 _ rfl
                  have z0 := HX2.out.cell 0 _ rfl
                  have y0 := HX2.out.free 0
                  have z1 := HX2.out.cell 1 _ rfl
                  have y1 := HX2.out.free 1
                  have z2 := HX2.out.cell 2 _ rfl
                  have y2 := HX2.out.free 2
                  have z3 := HX2.out.cell 3 _ rfl
                  have y3 := HX2.out.free 3
                  have z4 := HX2.out.cell 4 _ rfl
                  have y4 := HX2.out.free 4
                  have z5 := HX2.out.cell 5 _ rfl
                  have y5 := HX2.out.free 5
                  have z6 := HX2.out.cell 6 _ rfl
                  have y6 := HX2.out.free 6
                  go_wp2
                  refine bodyPost_ret (results_ctt rfl _ _ _ _ _ _ _ _ _ rfl rfl rfl (HX2.out.put7 _ _ _ _ _ _ _).1 Tryd.underlying32 rfl Tryd.sizeDc) rfl ?_
                  exact ⟨(0, false, ⟨#[]⟩, ⟨#[]⟩, 0, [], 0), none, 0, _, _, rfl, HRS.out, OwnR.nil _ _, bel_put7 HB.out (Nat.le_refl _) _ _ _ _ _ _ _⟩
                · have HRS : Hid (dclU l = ((kd, false, txtU l 2, txtU l 3, numU l 3, [], 0), 4, true)) := by unfold Hid; rw [HR.out, HRL.out, if_neg hk]
                  obtain ⟨kk, hkk⟩ : ∃ kk, frmU l 2 [110, 110] = kk := ⟨_, rfl⟩
                  have hlt3 : 3 < l.length := frm_two hkk (by omega)
                  rw [hkk] at HNS hk
                  have hk1 : ¬ (kk : Int) < 2 := by omega
                  generalize strOfNums [110, 110] = FM at HRU HNS
                  clear hkk hk hde hkd hs1 HRL
                  go_upto_region 24 with (first | (go_at_call 28; refine (HT1.out _ HK.out).mono ?_; rintro e wi ⟨rfl, hw9⟩; have hw8 := hw9.symm; subst hw8; clear hw9) | (go_at_call 31; refine (HRU.out _).mono ?_; rintro e wi ⟨rfl, hw9⟩; have hw8 := hw9.symm; subst hw8; clear hw9) | (go_at_call 32; refine (HNS.out _ HK.out).mono ?_; rintro e w6 ⟨rfl, hb⟩; replace HX2 := hide (HX2.out.below hb); replace HX9 := hide (HX9.out.below hb); replace HK := hide (HK.out.below hb); replace HB := hide (bel_next HB.out hb); clear hb))
                  have hln : l.length = n := HK.out.1
                  obtain ⟨b, off, rfl⟩ := HK.out.addr (by omega)
                  have hl1 : (2 : Int) < (n : Int) := by omega
                  have hl2 : (3 : Int) < (n : Int) := by omega
                  have HTK : Hid (∀ W, KS W (some ⟨b, off, none⟩) n l → W.cell? ⟨b, off + 9, none⟩ = some (.string (txtU l 2)) ∧ W.cell? ⟨b, off + 13, none⟩ = some (.string (txtU l 3)) ∧ W.cell? ⟨b, off + 14, none⟩ = some (.int .i64 (numU l 3))) := fun W h => ⟨(tx_at h HQ.out (i := 2) (by omega)).1, (tx_at h HQ.out (i := 3) (by omega)).1, (tx_at h HQ.out (i := 3) (by omega)).2⟩
                  generalize txtU l 2 = x1 at HTK HRS
                  generalize txtU l 3 = x2 at HTK HRS
                  generalize numU l 3 = nn at HTK HRS
                  clear hln hlt3
                  have e1 := (HTK.out _ HK.out).1
                  have e2 := (HTK.out _ HK.out).2.1
                  have e3 := (HTK.out _ HK.out).2.2
                  have c0 := HX9.out.cell 0 _ rfl
                  have y0 := HX9.out.free 0
                  go_upto_region 25 with fail
                  replace HX2 := hide (HX2.out.other hg9 0 (.int .i64 kd))
                  replace HX9 : Hid (BX (w6.setCell ⟨g9, 0, none⟩ (.int .i64 kd)) g9 #[.int .i64 kd, .bool false, .string ⟨#[]⟩, .string ⟨#[]⟩, .int .i64 0, .slice none 0 0, .int .i64 0] 32) := HX9.out.set 0 _
                  replace HB := hide (HB.out.setCell (p := ⟨g9, 0, none⟩) hgN (.int .i64 kd))
                  replace HK := hide (HK0.out.below HB.out)
                  clear e1 e2 e3 c0 y0
                  generalize w6.setCell ⟨g9, 0, none⟩ (.int .i64 kd) = w10 at *
                  have e1 := (HTK.out _ HK.out).1
                  have e2 := (HTK.out _ HK.out).2.1
                  have e3 := (HTK.out _ HK.out).2.2
                  have c2 := HX9.out.cell 2 _ rfl
                  have y2 := HX9.out.free 2
                  go_upto_region 26 with fail
                  replace HX2 := hide (HX2.out.other hg9 2 (.string x1))
                  replace HX9 : Hid (BX (w10.setCell ⟨g9, 2, none⟩ (.string x1)) g9 #[.int .i64 kd, .bool false, .string x1, .string ⟨#[]⟩, .int .i64 0, .slice none 0 0, .int .i64 0] 32) := HX9.out.set 2 _
                  replace HB := hide (HB.out.setCell (p := ⟨g9, 2, none⟩) hgN (.string x1))
                  replace HK := hide (HK0.out.below HB.out)
                  clear e1 e2 e3 c2 y2
                  generalize w10.setCell ⟨g9, 2, none⟩ (.string x1) = w11 at *
                  have e1 := (HTK.out _ HK.out).1
                  have e2 := (HTK.out _ HK.out).2.1
                  have e3 := (HTK.out _ HK.out).2.2
                  have c3 := HX9.out.cell 3 _ rfl
                  have y3 := HX9.out.free 3
                  go_upto_region 27 with fail
                  replace HX2 := hide (HX2.out.other hg9 3 (.string x2))
                  replace HX9 : Hid (BX (w11.setCell ⟨g9, 3, none⟩ (.string x2)) g9 #[.int .i64 kd, .bool false, .string x1, .string x2, .int .i64 0, .slice none 0 0, .int .i64 0] 32) := HX9.out.set 3 _
                  replace HB := hide (HB.out.setCell (p := ⟨g9, 3, none⟩) hgN (.string x2))
                  replace HK := hide (HK0.out.below HB.out)
                  clear e1 e2 e3 c3 y3
                  generalize w11.setCell ⟨g9, 3, none⟩ (.string x2) = w12 at *
                  have e1 := (HTK.out _ HK.out).1
                  have e2 := (HTK.out _ HK.out).2.1
                  have e3 := (HTK.out _ HK.out).2.2
                  have c4 := HX9.out.cell 4 _ rfl
                  have y4 := HX9.out.free 4
                  go_upto_region 28 with fail
                  replace HX2 := hide (HX2.out.other hg9 4 (.int .i64 nn))
                  replace HX9 : Hid (BX (w12.setCell ⟨g9, 4, none⟩ (.int .i64 nn)) g9 #[.int .i64 kd, .bool false, .string x1, .string x2, .int .i64 nn, .slice none 0 0, .int .i64 0] 32) := HX9.out.set 4 _
                  replace HB := hide (HB.out.setCell (p := ⟨g9, 4, none⟩) hgN (.int .i64 nn))
                  replace HK := hide (HK0.out.below HB.out)
                  clear e1 e2 e3 c4 y4
                  generalize w12.setCell ⟨g9, 4, none⟩ (.int .i64 nn) = w13 at *
                  have c0 := HX9.out.cell 0 _ rfl
                  have c1 := HX9.out.cell 1 _ rfl
                  have c2 := HX9.out.cell 2 _ rfl
                  have c3 := HX9.out.cell 3 _ rfl
                  have c4 := HX9.out.cell 4 _ rfl
                  have c5 := HX9.out.cell 5 _ rfl
                  have c6 := HX9.out.cell 6 _ rfl
                  have z0 := HX2.out.cell 0 _ rfl
                  have y0 := HX2.out.free 0
                  have z1 := HX2.out.cell 1 _ rfl
                  have y1 := HX2.out.free 1
                  have z2 := HX2.out.cell 2 _ rfl
                  have y2 := HX2.out.free 2
                  have z3 := HX2.out.cell 3 _ rfl
                  have y3 := HX2.out.free 3
                  have z4 := HX2.out.cell 4 _ rfl
                  have y4 := HX2.out.free 4
                  have z5 := HX2.out.cell 5 _ rfl
                  have y5 := HX2.out.free 5
                  have z6 := HX2.out.cell 6 _ rfl
                  have y6 := HX2.out.free 6
                  go_wp2
                  refine bodyPost_ret (results_ctt rfl _ _ _ _ _ _ _ _ _ rfl rfl rfl (HX2.out.put7 _ _ _ _ _ _ _).1 Tryd.underlying32 rfl Tryd.sizeDc) rfl ?_
                  exact ⟨(kd, false, x1, x2, nn, [], 0), none, 0, _, _, rfl, HRS.out, OwnR.nil _ _, bel_put7 HB.out (Nat.le_refl _) _ _ _ _ _ _ _⟩
              · have HRU : Hid (∀ W, Calls Tryd.prog 31 #[.string s1] W fun e w' => e = .returned (.tuple #[.int .i64 kd, .string (strOfNums [110, 100])]) ∧ w' = W) := fun W => by
                  have q := rule15 s1 W
                  rw [hde] at q
                  exact q
                have HNS : Hid (∀ W, KS W a n l → Calls Tryd.prog 32 #[.slice a n cap, .int .i64 2, .string (strOfNums [110, 100])] W fun e w' => e = .returned (.int .i64 (frmU l 2 [110, 100])) ∧ Below W.heap.size W w') := fun W h => by
                  have q := names15 a n cap l 2 (strOfNums [110, 100]) W h (by omega) (by decide) (by decide)
                  rw [bytes_str (l := [110, 100]) (by intro c hc; simp at hc; omega)] at q
                  exact q
                have g0 : (kd == 0) = false := by simpa using hkd
                have HRL : Hid (rlR l false 1 = if frmU l 2 [110, 100] < 2 then ((0, false, ⟨#[]⟩, ⟨#[]⟩, 0, [], 0), 1 + 1 + frmU l 2 [110, 100], false) else ((kd, false, txtU l 2, txtU l 3, numU l 3, [], 0), 4, true)) := by
                  unfold Hid rlR
                  rw [show txtU l 1 = s1 from hs1, hde, if_neg hkd]
                by_cases hk : frmU l 2 [110, 100] < 2
                · obtain ⟨kk, hkk⟩ : ∃ kk, frmU l 2 [110, 100] = kk := ⟨_, rfl⟩
                  have HRS : Hid (dclU l = ((0, false, ⟨#[]⟩, ⟨#[]⟩, 0, [], 0), 1 + 1 + kk, false)) := by unfold Hid; rw [HR.out, HRL.out, if_pos hk, hkk]
                  rw [hkk] at HNS hk
                  have hk1 : (kk : Int) < 2 := by omega
                  have hk2 : (0 : Int) ≤ (kk : Int) := by omega
                  generalize strOfNums [110, 100] = FM at HRU HNS
                  clear hkk hk hde hkd hs1 HRL
                  go_upto_region 23 with (first | (go_at_call 28; refine (HT1.out _ HK.out).mono ?_; rintro e wi ⟨rfl, hw9⟩; have hw8 := hw9.symm; subst hw8; clear hw9) | (go_at_call 31; refine (HRU.out _).mono ?_; rintro e wi ⟨rfl, hw9⟩; have hw8 := hw9.symm; subst hw8; clear hw9) | (go_at_call 32; refine (HNS.out _ HK.out).mono ?_; rintro e w6 ⟨rfl, hb⟩; replace HX2 := hide (HX2.out.below hb); replace HX9 := hide (HX9.out.below hb); replace HK := hide (HK.out.below hb); replace HB := hide (bel_next HB.out hb); clear hb))
                  have c0 := HX9.out.cell 0 _ rfl
                  have c1 := HX9.out.cell 1 _ rfl
                  have c2 := HX9.out.cell 2 _ rfl
                  have c3 := HX9.out.cell 3 _ rfl
                  have c4 := HX9.out.cell 4 _ rfl
                  have c5 := HX9.out.cell 5 _ rfl
                  have c6 := HX9.out.cell 6 _ rfl
                  have z0 := HX2.out.cell 0 _ rfl
                  have y0 := HX2.out.free 0
                  have z1 := HX2.out.cell 1 _ rfl
                  have y1 := HX2.out.free 1
                  have z2 := HX2.out.cell 2 _ rfl
                  have y2 := HX2.out.free 2
                  have z3 := HX2.out.cell 3 _ rfl
                  have y3 := HX2.out.free 3
                  have z4 := HX2.out.cell 4 _ rfl
                  have y4 := HX2.out.free 4
                  have z5 := HX2.out.cell 5 _ rfl
                  have y5 := HX2.out.free 5
                  have z6 := HX2.out.cell 6 _ rfl
                  have y6 := HX2.out.free 6
                  go_wp2
                  refine bodyPost_ret (results_ctt rfl _ _ _ _ _ _ _ _ _ rfl rfl rfl (HX2.out.put7 _ _ _ _ _ _ _).1 Tryd.underlying32 rfl Tryd.sizeDc) rfl ?_
                  exact ⟨(0, false, ⟨#[]⟩, ⟨#[]⟩, 0, [], 0), none, 0, _, _, rfl, HRS.out, OwnR.nil _ _, bel_put7 HB.out (Nat.le_refl _) _ _ _ _ _ _ _⟩
                · have HRS : Hid (dclU l = ((kd, false, txtU l 2, txtU l 3, numU l 3, [], 0), 4, true)) := by unfold Hid; rw [HR.out, HRL.out, if_neg hk]
                  obtain ⟨kk, hkk⟩ : ∃ kk, frmU l 2 [110, 100] = kk := ⟨_, rfl⟩
                  have hlt3 : 3 < l.length := frm_two hkk (by omega)
                  rw [hkk] at HNS hk
                  have hk1 : ¬ (kk : Int) < 2 := by omega
                  generalize strOfNums [110, 100] = FM at HRU HNS
                  clear hkk hk hde hkd hs1 HRL
                  go_upto_region 24 with (first | (go_at_call 28; refine (HT1.out _ HK.out).mono ?_; rintro e wi ⟨rfl, hw9⟩; have hw8 := hw9.symm; subst hw8; clear hw9) | (go_at_call 31; refine (HRU.out _).mono ?_; rintro e wi ⟨rfl, hw9⟩; have hw8 := hw9.symm; subst hw8; clear hw9) | (go_at_call 32; refine (HNS.out _ HK.out).mono ?_; rintro e w6 ⟨rfl, hb⟩; replace HX2 := hide (HX2.out.below hb); replace HX9 := hide (HX9.out.below hb); replace HK := hide (HK.out.below hb); replace HB := hide (bel_next HB.out hb); clear hb))
                  have hln : l.length = n := HK.out.1
                  obtain ⟨b, off, rfl⟩ := HK.out.addr (by omega)
                  have hl1 : (2 : Int) < (n : Int) := by omega
                  have hl2 : (3 : Int) < (n : Int) := by omega
                  have HTK : Hid (∀ W, KS W (some ⟨b, off, none⟩) n l → W.cell? ⟨b, off + 9, none⟩ = some (.string (txtU l 2)) ∧ W.cell? ⟨b, off + 13, none⟩ = some (.string (txtU l 3)) ∧ W.cell? ⟨b, off + 14, none⟩ = some (.int .i64 (numU l 3))) := fun W h => ⟨(tx_at h HQ.out (i := 2) (by omega)).1, (tx_at h HQ.out (i := 3) (by omega)).1, (tx_at h HQ.out (i := 3) (by omega)).2⟩
                  generalize txtU l 2 = x1 at HTK HRS
                  generalize txtU l 3 = x2 at HTK HRS
                  generalize numU l 3 = nn at HTK HRS
                  clear hln hlt3
                  have e1 := (HTK.out _ HK.out).1
                  have e2 := (HTK.out _ HK.out).2.1
                  have e3 := (HTK.out _ HK.out).2.2
                  have c0 := HX9.out.cell 0 _ rfl
                  have y0 := HX9.out.free 0
                  go_upto_region 25 with fail
                  replace HX2 := hide (HX2.out.other hg9 0 (.int .i64 kd))
                  replace HX9 : Hid (BX (w6.setCell ⟨g9, 0, none⟩ (.int .i64 kd)) g9 #[.int .i64 kd, .bool false, .string ⟨#[]⟩, .string ⟨#[]⟩, .int .i64 0, .slice none 0 0, .int .i64 0] 32) := HX9.out.set 0 _
                  replace HB := hide (HB.out.setCell (p := ⟨g9, 0, none⟩) hgN (.int .i64 kd))
                  replace HK := hide (HK0.out.below HB.out)
                  clear e1 e2 e3 c0 y0
                  generalize w6.setCell ⟨g9, 0, none⟩ (.int .i64 kd) = w10 at *
                  have e1 := (HTK.out _ HK.out).1
                  have e2 := (HTK.out _ HK.out).2.1
                  have e3 := (HTK.out _ HK.out).2.2
                  have c2 := HX9.out.cell 2 _ rfl
                  have y2 := HX9.out.free 2
                  go_upto_region 26 with fail
                  replace HX2 := hide (HX2.out.other hg9 2 (.string x1))
                  replace HX9 : Hid (BX (w10.setCell ⟨g9, 2, none⟩ (.string x1)) g9 #[.int .i64 kd, .bool false, .string x1, .string ⟨#[]⟩, .int .i64 0, .slice none 0 0, .int .i64 0] 32) := HX9.out.set 2 _
                  replace HB := hide (HB.out.setCell (p := ⟨g9, 2, none⟩) hgN (.string x1))
                  replace HK := hide (HK0.out.below HB.out)
                  clear e1 e2 e3 c2 y2
                  generalize w10.setCell ⟨g9, 2, none⟩ (.string x1) = w11 at *
                  have e1 := (HTK.out _ HK.out).1
                  have e2 := (HTK.out _ HK.out).2.1
                  have e3 := (HTK.out _ HK.out).2.2
                  have c3 := HX9.out.cell 3 _ rfl
                  have y3 := HX9.out.free 3
                  go_upto_region 27 with fail
                  replace HX2 := hide (HX2.out.other hg9 3 (.string x2))
                  replace HX9 : Hid (BX (w11.setCell ⟨g9, 3, none⟩ (.string x2)) g9 #[.int .i64 kd, .bool false, .string x1, .string x2, .int .i64 0, .slice none 0 0, .int .i64 0] 32) := HX9.out.set 3 _
                  replace HB := hide (HB.out.setCell (p := ⟨g9, 3, none⟩) hgN (.string x2))
                  replace HK := hide (HK0.out.below HB.out)
                  clear e1 e2 e3 c3 y3
                  generalize w11.setCell ⟨g9, 3, none⟩ (.string x2) = w12 at *
                  have e1 := (HTK.out _ HK.out).1
                  have e2 := (HTK.out _ HK.out).2.1
                  have e3 := (HTK.out _ HK.out).2.2
                  have c4 := HX9.out.cell 4 _ rfl
                  have y4 := HX9.out.free 4
                  go_upto_region 28 with fail
                  replace HX2 := hide (HX2.out.other hg9 4 (.int .i64 nn))
                  replace HX9 : Hid (BX (w12.setCell ⟨g9, 4, none⟩ (.int .i64 nn)) g9 #[.int .i64 kd, .bool false, .string x1, .string x2, .int .i64 nn, .slice none 0 0, .int .i64 0] 32) := HX9.out.set 4 _
                  replace HB := hide (HB.out.setCell (p := ⟨g9, 4, none⟩) hgN (.int .i64 nn))
                  replace HK := hide (HK0.out.below HB.out)
                  clear e1 e2 e3 c4 y4
                  generalize w12.setCell ⟨g9, 4, none⟩ (.int .i64 nn) = w13 at *
                  have c0 := HX9.out.cell 0 _ rfl
                  have c1 := HX9.out.cell 1 _ rfl
                  have c2 := HX9.out.cell 2 _ rfl
                  have c3 := HX9.out.cell 3 _ rfl
                  have c4 := HX9.out.cell 4 _ rfl
                  have c5 := HX9.out.cell 5 _ rfl
                  have c6 := HX9.out.cell 6 _ rfl
                  have z0 := HX2.out.cell 0 _ rfl
                  have y0 := HX2.out.free 0
                  have z1 := HX2.out.cell 1 _ rfl
                  have y1 := HX2.out.free 1
                  have z2 := HX2.out.cell 2 _ rfl
                  have y2 := HX2.out.free 2
                  have z3 := HX2.out.cell 3 _ rfl
                  have y3 := HX2.out.free 3
                  have z4 := HX2.out.cell 4 _ rfl
                  have y4 := HX2.out.free 4
                  have z5 := HX2.out.cell 5 _ rfl
                  have y5 := HX2.out.free 5
                  have z6 := HX2.out.cell 6 _ rfl
                  have y6 := HX2.out.free 6
                  go_wp2
                  refine bodyPost_ret (results_ctt rfl _ _ _ _ _ _ _ _ _ rfl rfl rfl (HX2.out.put7 _ _ _ _ _ _ _).1 Tryd.underlying32 rfl Tryd.sizeDc) rfl ?_
                  exact ⟨(kd, false, x1, x2, nn, [], 0), none, 0, _, _, rfl, HRS.out, OwnR.nil _ _, bel_put7 HB.out (Nat.le_refl _) _ _ _ _ _ _ _⟩
          · rw [hst] at qst
            have HR : Hid (dclU l = rlR l true 2) := dcl_rl (by rw [HS.out]; exact hru) true (by rw [hs1]; exact hst)
            obtain ⟨s2, hs2⟩ : ∃ s2, txtU l 2 = s2 := ⟨_, rfl⟩
            have HT2 : Hid (∀ W, KS W a n l → Calls Tryd.prog 28 #[.slice a n cap, .int .i64 2] W fun e w' => e = .returned (.string s2) ∧ w' = W) := fun W h => by
              have q := text15 a n cap l 2 W h (by omega)
              rw [hs2] at q
              exact q
            have R9 := bel1 w2 (.cells #[.int .i64 0, .bool true, .string ⟨#[]⟩, .string ⟨#[]⟩, .int .i64 0, .slice none 0 0, .int .i64 0] 32)
            have HX9 : Hid (BX (w2.alloc (.cells #[.int .i64 0, .bool true, .string ⟨#[]⟩, .string ⟨#[]⟩, .int .i64 0, .slice none 0 0, .int .i64 0] 32)) w2.heap.size #[.int .i64 0, .bool true, .string ⟨#[]⟩, .string ⟨#[]⟩, .int .i64 0, .slice none 0 0, .int .i64 0] 32) := BX.new w2 _ rfl _ _
            go_upto_region 16 with (go_at_call 28; refine (HT1.out _ HK.out).mono ?_; rintro e wi ⟨rfl, hw9⟩; have hw8 := hw9.symm; subst hw8; clear hw9)
            have hg9 : w2.heap.size ≠ w.heap.size := by have := HX2.out.size; omega
            have hgN : w.heap.size ≤ w2.heap.size := HB.out.size
            replace HX2 := hide (HX2.out.below R9)
            replace HK := hide (HK.out.below R9)
            replace HB := hide (bel_next HB.out R9)
            clear R9
            generalize w2.heap.size = g9 at *
            generalize w2.alloc (.cells #[.int .i64 0, .bool true, .string ⟨#[]⟩, .string ⟨#[]⟩, .int .i64 0, .slice none 0 0, .int .i64 0] 32) = w5 at *
            have e9 := HX9.out.cell 1 _ rfl
            rcases ruleU_cases s2 with hk0 | ⟨kd, hkd, hde⟩
            · have HRU : Hid (∀ W, Calls Tryd.prog 31 #[.string s2] W fun e w' => e = .returned (.tuple #[.int .i64 0, .string (strOfNums (ruleU s2).2)]) ∧ w' = W) := fun W => by
                have q := rule15 s2 W
                rw [hk0] at q
                exact q
              have HRS : Hid (dclU l = ((0, true, ⟨#[]⟩, ⟨#[]⟩, 0, [], 0), 2, false)) := by
                unfold Hid
                rw [HR.out]
                unfold rlR
                rw [if_pos (by rw [hs2]; exact hk0)]
              generalize strOfNums (ruleU s2).2 = FM at HRU
              clear hk0 hs2
              go_upto_region 20 with (first | (go_at_call 28; refine (HT2.out _ HK.out).mono ?_; rintro e wi ⟨rfl, hw9⟩; have hw8 := hw9.symm; subst hw8; clear hw9) | (go_at_call 31; refine (HRU.out _).mono ?_; rintro e wi ⟨rfl, hw9⟩; have hw8 := hw9.symm; subst hw8; clear hw9))
              have c0 := HX9.out.cell 0 _ rfl
              have c1 := HX9.out.cell 1 _ rfl
              have c2 := HX9.out.cell 2 _ rfl
              have c3 := HX9.out.cell 3 _ rfl
              have c4 := HX9.out.cell 4 _ rfl
              have c5 := HX9.out.cell 5 _ rfl
              have c6 := HX9.out.cell 6 _ rfl
              have z0 := HX2.out.cell 0 _ rfl
              have y0 := HX2.out.free 0
              have z1 := HX2.out.cell 1 _ rfl
              have y1 := HX2.out.free 1
              have z2 := HX2.out.cell 2 _ rfl
              have y2 := HX2.out.free 2
              have z3 := HX2.out.cell 3 _ rfl
              have y3 := HX2.out.free 3
              have z4 := HX2.out.cell 4 _ rfl
              have y4 := HX2.out.free 4
              have z5 := HX2.out.cell 5 _ rfl
              have y5 := HX2.out.free 5
              have z6 := HX2.out.cell 6 _ rfl
              have y6 := HX2.out.free 6
              go_wp2
              refine bodyPost_ret (results_ctt rfl _ _ _ _ _ _ _ _ _ rfl rfl rfl (HX2.out.put7 _ _ _ _ _ _ _).1 Tryd.underlying32 rfl Tryd.sizeDc) rfl ?_
              exact ⟨(0, true, ⟨#[]⟩, ⟨#[]⟩, 0, [], 0), none, 0, _, _, rfl, HRS.out, OwnR.nil _ _, bel_put7 HB.out (Nat.le_refl _) _ _ _ _ _ _ _⟩
            · rcases hde with hde | hde
              · have HRU : Hid (∀ W, Calls Tryd.prog 31 #[.string s2] W fun e w' => e = .returned (.tuple #[.int .i64 kd, .string (strOfNums [110, 110])]) ∧ w' = W) := fun W => by
                  have q := rule15 s2 W
                  rw [hde] at q
                  exact q
                have HNS : Hid (∀ W, KS W a n l → Calls Tryd.prog 32 #[.slice a n cap, .int .i64 3, .string (strOfNums [110, 110])] W fun e w' => e = .returned (.int .i64 (frmU l 3 [110, 110])) ∧ Below W.heap.size W w') := fun W h => by
                  have q := names15 a n cap l 3 (strOfNums [110, 110]) W h (by omega) (by decide) (by decide)
                  rw [bytes_str (l := [110, 110]) (by intro c hc; simp at hc; omega)] at q
                  exact q
                have g0 : (kd == 0) = false := by simpa using hkd
                have HRL : Hid (rlR l true 2 = if frmU l 3 [110, 110] < 2 then ((0, true, ⟨#[]⟩, ⟨#[]⟩, 0, [], 0), 2 + 1 + frmU l 3 [110, 110], false) else ((kd, true, txtU l 3, txtU l 4, numU l 4, [], 0), 5, true)) := by
                  unfold Hid rlR
                  rw [show txtU l 2 = s2 from hs2, hde, if_neg hkd]
                by_cases hk : frmU l 3 [110, 110] < 2
                · obtain ⟨kk, hkk⟩ : ∃ kk, frmU l 3 [110, 110] = kk := ⟨_, rfl⟩
                  have HRS : Hid (dclU l = ((0, true, ⟨#[]⟩, ⟨#[]⟩, 0, [], 0), 2 + 1 + kk, false)) := by unfold Hid; rw [HR.out, HRL.out, if_pos hk, hkk]
                  rw [hkk] at HNS hk
                  have hk1 : (kk : Int) < 2 := by omega
                  have hk2 : (0 : Int) ≤ (kk : Int) := by omega
                  generalize strOfNums [110, 110] = FM at HRU HNS
                  clear hkk hk hde hkd hs2 HRL
                  go_upto_region 23 with (first | (go_at_call 28; refine (HT2.out _ HK.out).mono ?_; rintro e wi ⟨rfl, hw9⟩; have hw8 := hw9.symm; subst hw8; clear hw9) | (go_at_call 31; refine (HRU.out _).mono ?_; rintro e wi ⟨rfl, hw9⟩; have hw8 := hw9.symm; subst hw8; clear hw9) | (go_at_call 32; refine (HNS.out _ HK.out).mono ?_; rintro e w6 ⟨rfl, hb⟩; replace HX2 := hide (HX2.out.below hb); replace HX9 := hide (HX9.out.below hb); replace HK := hide (HK.out.below hb); replace HB := hide (bel_next HB.out hb); clear hb))
                  have c0 := HX9.out.cell 0 _ rfl
                  have c1 := HX9.out.cell 1 _ rfl
                  have c2 := HX9.out.cell 2 _ rfl
                  have c3 := HX9.out.cell 3 _ rfl
                  have c4 := HX9.out.cell 4 _ rfl
                  have c5 := HX9.out.cell 5 _ rfl
                  have c6 := HX9.out.cell 6 _ rfl
                  have z0 := HX2.out.cell 0 _ rfl
                  have y0 := HX2.out.free 0
                  have z1 := HX2.out.cell 1 _ rfl
                  have y1 := HX2.out.free 1
                  have z2 := HX2.out.cell 2 _ rfl
                  have y2 := HX2.out.free 2
                  have z3 := HX2.out.cell 3 _ rfl
                  have y3 := HX2.out.free 3
                  have z4 := HX2.out.cell 4 _ rfl
                  have y4 := HX2.out.free 4
                  have z5 := HX2.out.cell 5 _ rfl
                  have y5 := HX2.out.free 5
                  have z6 := HX2.out.cell 6 _ rfl
                  have y6 := HX2.out.free 6
                  go_wp2
                  refine bodyPost_ret (results_ctt rfl _ _ _ _ _ _ _ _ _ rfl rfl rfl (HX2.out.put7 _ _ _ _ _ _ _).1 Tryd.underlying32 rfl Tryd.sizeDc) rfl ?_
                  exact ⟨(0, true, ⟨#[]⟩, ⟨#[]⟩, 0, [], 0), none, 0, _, _, rfl, HRS.out, OwnR.nil _ _, bel_put7 HB.out (Nat.le_refl _) _ _ _ _ _ _ _⟩
                · have HRS : Hid (dclU l = ((kd, true, txtU l 3, txtU l 4, numU l 4, [], 0), 5, true)) := by unfold Hid; rw [HR.out, HRL.out, if_neg hk]
                  obtain ⟨kk, hkk⟩ : ∃ kk, frmU l 3 [110, 110] = kk := ⟨_, rfl⟩
                  have hlt3 : 4 < l.length := frm_two hkk (by omega)
                  rw [hkk] at HNS hk
                  have hk1 : ¬ (kk : Int) < 2 := by omega
                  generalize strOfNums [110, 110] = FM at HRU HNS
                  clear hkk hk hde hkd hs2 HRL
                  go_upto_region 24 with (first | (go_at_call 28; refine (HT2.out _ HK.out).mono ?_; rintro e wi ⟨rfl, hw9⟩; have hw8 := hw9.symm; subst hw8; clear hw9) | (go_at_call 31; refine (HRU.out _).mono ?_; rintro e wi ⟨rfl, hw9⟩; have hw8 := hw9.symm; subst hw8; clear hw9) | (go_at_call 32; refine (HNS.out _ HK.out).mono ?_; rintro e w6 ⟨rfl, hb⟩; replace HX2 := hide (HX2.out.below hb); replace HX9 := hide (HX9.out.below hb); replace HK := hide (HK.out.below hb); replace HB := hide (bel_next HB.out hb); clear hb))
                  have hln : l.length = n := HK.out.1
                  obtain ⟨b, off, rfl⟩ := HK.out.addr (by omega)
                  have hl1 : (3 : Int) < (n : Int) := by omega
                  have hl2 : (4 : Int) < (n : Int) := by omega
                  have HTK : Hid (∀ W, KS W (some ⟨b, off, none⟩) n l → W.cell? ⟨b, off + 13, none⟩ = some (.string (txtU l 3)) ∧ W.cell? ⟨b, off + 17, none⟩ = some (.string (txtU l 4)) ∧ W.cell? ⟨b, off + 18, none⟩ = some (.int .i64 (numU l 4))) := fun W h => ⟨(tx_at h HQ.out (i := 3) (by omega)).1, (tx_at h HQ.out (i := 4) (by omega)).1, (tx_at h HQ.out (i := 4) (by omega)).2⟩
                  generalize txtU l 3 = x1 at HTK HRS
                  generalize txtU l 4 = x2 at HTK HRS
                  generalize numU l 4 = nn at HTK HRS
                  clear hln hlt3
                  have e1 := (HTK.out _ HK.out).1
                  have e2 := (HTK.out _ HK.out).2.1
                  have e3 := (HTK.out _ HK.out).2.2
                  have c0 := HX9.out.cell 0 _ rfl
                  have y0 := HX9.out.free 0
                  go_upto_region 25 with fail
                  replace HX2 := hide (HX2.out.other hg9 0 (.int .i64 kd))
                  replace HX9 : Hid (BX (w6.setCell ⟨g9, 0, none⟩ (.int .i64 kd)) g9 #[.int .i64 kd, .bool true, .string ⟨#[]⟩, .string ⟨#[]⟩, .int .i64 0, .slice none 0 0, .int .i64 0] 32) := HX9.out.set 0 _
                  replace HB := hide (HB.out.setCell (p := ⟨g9, 0, none⟩) hgN (.int .i64 kd))
                  replace HK := hide (HK0.out.below HB.out)
                  clear e1 e2 e3 c0 y0
                  generalize w6.setCell ⟨g9, 0, none⟩ (.int .i64 kd) = w10 at *
                  have e1 := (HTK.out _ HK.out).1
                  have e2 := (HTK.out _ HK.out).2.1
                  have e3 := (HTK.out _ HK.out).2.2
                  have c2 := HX9.out.cell 2 _ rfl
                  have y2 := HX9.out.free 2
                  go_upto_region 26 with fail
                  replace HX2 := hide (HX2.out.other hg9 2 (.string x1))
                  replace HX9 : Hid (BX (w10.setCell ⟨g9, 2, none⟩ (.string x1)) g9 #[.int .i64 kd, .bool true, .string x1, .string ⟨#[]⟩, .int .i64 0, .slice none 0 0, .int .i64 0] 32) := HX9.out.set 2 _
                  replace HB := hide (HB.out.setCell (p := ⟨g9, 2, none⟩) hgN (.string x1))
                  replace HK := hide (HK0.out.below HB.out)
                  clear e1 e2 e3 c2 y2
                  generalize w10.setCell ⟨g9, 2, none⟩ (.string x1) = w11 at *
                  have e1 := (HTK.out _ HK.out).1
                  have e2 := (HTK.out _ HK.out).2.1
                  have e3 := (HTK.out _ HK.out).2.2
                  have c3 := HX9.out.cell 3 _ rfl
                  have y3 := HX9.out.free 3
                  go_upto_region 27 with fail
                  replace HX2 := hide (HX2.out.other hg9 3 (.string x2))
                  replace HX9 : Hid (BX (w11.setCell ⟨g9, 3, none⟩ (.string x2)) g9 #[.int .i64 kd, .bool true, .string x1, .string x2, .int .i64 0, .slice none 0 0, .int .i64 0] 32) := HX9.out.set 3 _
                  replace HB := hide (HB.out.setCell (p := ⟨g9, 3, none⟩) hgN (.string x2))
                  replace HK := hide (HK0.out.below HB.out)
                  clear e1 e2 e3 c3 y3
                  generalize w11.setCell ⟨g9, 3, none⟩ (.string x2) = w12 at *
                  have e1 := (HTK.out _ HK.out).1
                  have e2 := (HTK.out _ HK.out).2.1
                  have e3 := (HTK.out _ HK.out).2.2
                  have c4 := HX9.out.cell 4 _ rfl
                  have y4 := HX9.out.free 4
                  go_upto_region 28 with fail
                  replace HX2 := hide (HX2.out.other hg9 4 (.int .i64 nn))
                  replace HX9 : Hid (BX (w12.setCell ⟨g9, 4, none⟩ (.int .i64 nn)) g9 #[.int .i64 kd, .bool true, .string x1, .string x2, .int .i64 nn, .slice none 0 0, .int .i64 0] 32) := HX9.out.set 4 _
                  replace HB := hide (HB.out.setCell (p := ⟨g9, 4, none⟩) hgN (.int .i64 nn))
                  replace HK := hide (HK0.out.below HB.out)
                  clear e1 e2 e3 c4 y4
                  generalize w12.setCell ⟨g9, 4, none⟩ (.int .i64 nn) = w13 at *
                  have c0 := HX9.out.cell 0 _ rfl
                  have c1 := HX9.out.cell 1 _ rfl
                  have c2 := HX9.out.cell 2 _ rfl
                  have c3 := HX9.out.cell 3 _ rfl
                  have c4 := HX9.out.cell 4 _ rfl
                  have c5 := HX9.out.cell 5 _ rfl
                  have c6 := HX9.out.cell 6 _ rfl
                  have z0 := HX2.out.cell 0 _ rfl
                  have y0 := HX2.out.free 0
                  have z1 := HX2.out.cell 1 _ rfl
                  have y1 := HX2.out.free 1
                  have z2 := HX2.out.cell 2 _ rfl
                  have y2 := HX2.out.free 2
                  have z3 := HX2.out.cell 3 _ rfl
                  have y3 := HX2.out.free 3
                  have z4 := HX2.out.cell 4 _ rfl
                  have y4 := HX2.out.free 4
                  have z5 := HX2.out.cell 5 _ rfl
                  have y5 := HX2.out.free 5
                  have z6 := HX2.out.cell 6 _ rfl
                  have y6 := HX2.out.free 6
                  go_wp2
                  refine bodyPost_ret (results_ctt rfl _ _ _ _ _ _ _ _ _ rfl rfl rfl (HX2.out.put7 _ _ _ _ _ _ _).1 Tryd.underlying32 rfl Tryd.sizeDc) rfl ?_
                  exact ⟨(kd, true, x1, x2, nn, [], 0), none, 0, _, _, rfl, HRS.out, OwnR.nil _ _, bel_put7 HB.out (Nat.le_refl _) _ _ _ _ _ _ _⟩
              · have HRU : Hid (∀ W, Calls Tryd.prog 31 #[.string s2] W fun e w' => e = .returned (.tuple #[.int .i64 kd, .string (strOfNums [110, 100])]) ∧ w' = W) := fun W => by
                  have q := rule15 s2 W
                  rw [hde] at q
                  exact q
                have HNS : Hid (∀ W, KS W a n l → Calls Tryd.prog 32 #[.slice a n cap, .int .i64 3, .string (strOfNums [110, 100])] W fun e w' => e = .returned (.int .i64 (frmU l 3 [110, 100])) ∧ Below W.heap.size W w') := fun W h => by
                  have q := names15 a n cap l 3 (strOfNums [110, 100]) W h (by omega) (by decide) (by decide)
                  rw [bytes_str (l := [110, 100]) (by intro c hc; simp at hc; omega)] at q
                  exact q
                have g0 : (kd == 0) = false := by simpa using hkd
                have HRL : Hid (rlR l true 2 = if frmU l 3 [110, 100] < 2 then ((0, true, ⟨#[]⟩, ⟨#[]⟩, 0, [], 0), 2 + 1 + frmU l 3 [110, 100], false) else ((kd, true, txtU l 3, txtU l 4, numU l 4, [], 0), 5, true)) := by
                  unfold Hid rlR
                  rw [show txtU l 2 = s2 from hs2, hde, if_neg hkd]
                by_cases hk : frmU l 3 [110, 100] < 2
                · obtain ⟨kk, hkk⟩ : ∃ kk, frmU l 3 [110, 100] = kk := ⟨_, rfl⟩
                  have HRS : Hid (dclU l = ((0, true, ⟨#[]⟩, ⟨#[]⟩, 0, [], 0), 2 + 1 + kk, false)) := by unfold Hid; rw [HR.out, HRL.out, if_pos hk, hkk]
                  rw [hkk] at HNS hk
                  have hk1 : (kk : Int) < 2 := by omega
                  have hk2 : (0 : Int) ≤ (kk : Int) := by omega
                  generalize strOfNums [110, 100] = FM at HRU HNS
                  clear hkk hk hde hkd hs2 HRL
                  go_upto_region 23 with (first | (go_at_call 28; refine (HT2.out _ HK.out).mono ?_; rintro e wi ⟨rfl, hw9⟩; have hw8 := hw9.symm; subst hw8; clear hw9) | (go_at_call 31; refine (HRU.out _).mono ?_; rintro e wi ⟨rfl, hw9⟩; have hw8 := hw9.symm; subst hw8; clear hw9) | (go_at_call 32; refine (HNS.out _ HK.out).mono ?_; rintro e w6 ⟨rfl, hb⟩; replace HX2 := hide (HX2.out.below hb); replace HX9 := hide (HX9.out.below hb); replace HK := hide (HK.out.below hb); replace HB := hide (bel_next HB.out hb); clear hb))
                  have c0 := HX9.out.cell 0 _ rfl
                  have c1 := HX9.out.cell 1 _ rfl
                  have c2 := HX9.out.cell 2 _ rfl
                  have c3 := HX9.out.cell 3 _ rfl
                  have c4 := HX9.out.cell 4 _ rfl
                  have c5 := HX9.out.cell 5 _ rfl
                  have c6 := HX9.out.cell 6 _ rfl
                  have z0 := HX2.out.cell 0 _ rfl
                  have y0 := HX2.out.free 0
                  have z1 := HX2.out.cell 1 _ rfl
                  have y1 := HX2.out.free 1
                  have z2 := HX2.out.cell 2 _ rfl
                  have y2 := HX2.out.free 2
                  have z3 := HX2.out.cell 3 _ rfl
                  have y3 := HX2.out.free 3
                  have z4 := HX2.out.cell 4 _ rfl
                  have y4 := HX2.out.free 4
                  have z5 := HX2.out.cell 5 _ rfl
                  have y5 := HX2.out.free 5
                  have z6 := HX2.out.cell 6 _ rfl
                  have y6 := HX2.out.free 6
                  go_wp2
                  refine bodyPost_ret (results_ctt rfl _ _ _ _ _ _ _ _ _ rfl rfl rfl (HX2.out.put7 _ _ _ _ _ _ _).1 Tryd.underlying32 rfl Tryd.sizeDc) rfl ?_
                  exact ⟨(0, true, ⟨#[]⟩, ⟨#[]⟩, 0, [], 0), none, 0, _, _, rfl, HRS.out, OwnR.nil _ _, bel_put7 HB.out (Nat.le_refl _) _ _ _ _ _ _ _⟩
                · have HRS : Hid (dclU l = ((kd, true, txtU l 3, txtU l 4, numU l 4, [], 0), 5, true)) := by unfold Hid; rw [HR.out, HRL.out, if_neg hk]
                  obtain ⟨kk, hkk⟩ : ∃ kk, frmU l 3 [110, 100] = kk := ⟨_, rfl⟩
                  have hlt3 : 4 < l.length := frm_two hkk (by omega)
                  rw [hkk] at HNS hk
                  have hk1 : ¬ (kk : Int) < 2 := by omega
                  generalize strOfNums [110, 100] = FM at HRU HNS
                  clear hkk hk hde hkd hs2 HRL
                  go_upto_region 24 with (first | (go_at_call 28; refine (HT2.out _ HK.out).mono ?_; rintro e wi ⟨rfl, hw9⟩; have hw8 := hw9.symm; subst hw8; clear hw9) | (go_at_call 31; refine (HRU.out _).mono ?_; rintro e wi ⟨rfl, hw9⟩; have hw8 := hw9.symm; subst hw8; clear hw9) | (go_at_call 32; refine (HNS.out _ HK.out).mono ?_; rintro e w6 ⟨rfl, hb⟩; replace HX2 := hide (HX2.out.below hb); replace HX9 := hide (HX9.out.below hb); replace HK := hide (HK.out.below hb); replace HB := hide (bel_next HB.out hb); clear hb))
                  have hln : l.length = n := HK.out.1
                  obtain ⟨b, off, rfl⟩ := HK.out.addr (by omega)
                  have hl1 : (3 : Int) < (n : Int) := by omega
                  have hl2 : (4 : Int) < (n : Int) := by omega
                  have HTK : Hid (∀ W, KS W (some ⟨b, off, none⟩) n l → W.cell? ⟨b, off + 13, none⟩ = some (.string (txtU l 3)) ∧ W.cell? ⟨b, off + 17, none⟩ = some (.string (txtU l 4)) ∧ W.cell? ⟨b, off + 18, none⟩ = some (.int .i64 (numU l 4))) := fun W h => ⟨(tx_at h HQ.out (i := 3) (by omega)).1, (tx_at h HQ.out (i := 4) (by omega)).1, (tx_at h HQ.out (i := 4) (by omega)).2⟩
                  generalize txtU l 3 = x1 at HTK HRS
                  generalize txtU l 4 = x2 at HTK HRS
                  generalize numU l 4 = nn at HTK HRS
                  clear hln hlt3
                  have e1 := (HTK.out _ HK.out).1
                  have e2 := (HTK.out _ HK.out).2.1
                  have e3 := (HTK.out _ HK.out).2.2
                  have c0 := HX9.out.cell 0 _ rfl
                  have y0 := HX9.out.free 0
                  go_upto_region 25 with fail
                  replace HX2 := hide (HX2.out.other hg9 0 (.int .i64 kd))
                  replace HX9 : Hid (BX (w6.setCell ⟨g9, 0, none⟩ (.int .i64 kd)) g9 #[.int .i64 kd, .bool true, .string ⟨#[]⟩, .string ⟨#[]⟩, .int .i64 0, .slice none 0 0, .int .i64 0] 32) := HX9.out.set 0 _
                  replace HB := hide (HB.out.setCell (p := ⟨g9, 0, none⟩) hgN (.int .i64 kd))
                  replace HK := hide (HK0.out.below HB.out)
                  clear e1 e2 e3 c0 y0
                  generalize w6.setCell ⟨g9, 0, none⟩ (.int .i64 kd) = w10 at *
                  have e1 := (HTK.out _ HK.out).1
                  have e2 := (HTK.out _ HK.out).2.1
                  have e3 := (HTK.out _ HK.out).2.2
                  have c2 := HX9.out.cell 2 _ rfl
                  have y2 := HX9.out.free 2
                  go_upto_region 26 with fail
                  replace HX2 := hide (HX2.out.other hg9 2 (.string x1))
                  replace HX9 : Hid (BX (w10.setCell ⟨g9, 2, none⟩ (.string x1)) g9 #[.int .i64 kd, .bool true, .string x1, .string ⟨#[]⟩, .int .i64 0, .slice none 0 0, .int .i64 0] 32) := HX9.out.set 2 _
                  replace HB := hide (HB.out.setCell (p := ⟨g9, 2, none⟩) hgN (.string x1))
                  replace HK := hide (HK0.out.below HB.out)
                  clear e1 e2 e3 c2 y2
                  generalize w10.setCell ⟨g9, 2, none⟩ (.string x1) = w11 at *
                  have e1 := (HTK.out _ HK.out).1
                  have e2 := (HTK.out _ HK.out).2.1
                  have e3 := (HTK.out _ HK.out).2.2
                  have c3 := HX9.out.cell 3 _ rfl
                  have y3 := HX9.out.free 3
                  go_upto_region 27 with fail
                  replace HX2 := hide (HX2.out.other hg9 3 (.string x2))
                  replace HX9 : Hid (BX (w11.setCell ⟨g9, 3, none⟩ (.string x2)) g9 #[.int .i64 kd, .bool true, .string x1, .string x2, .int .i64 0, .slice none 0 0, .int .i64 0] 32) := HX9.out.set 3 _
                  replace HB := hide (HB.out.setCell (p := ⟨g9, 3, none⟩) hgN (.string x2))
                  replace HK := hide (HK0.out.below HB.out)
                  clear e1 e2 e3 c3 y3
                  generalize w11.setCell ⟨g9, 3, none⟩ (.string x2) = w12 at *
                  have e1 := (HTK.out _ HK.out).1
                  have e2 := (HTK.out _ HK.out).2.1
                  have e3 := (HTK.out _ HK.out).2.2
                  have c4 := HX9.out.cell 4 _ rfl
                  have y4 := HX9.out.free 4
                  go_upto_region 28 with fail
                  replace HX2 := hide (HX2.out.other hg9 4 (.int .i64 nn))
                  replace HX9 : Hid (BX (w12.setCell ⟨g9, 4, none⟩ (.int .i64 nn)) g9 #[.int .i64 kd, .bool true, .string x1, .string x2, .int .i64 nn, .slice none 0 0, .int .i64 0] 32) := HX9.out.set 4 _
                  replace HB := hide (HB.out.setCell (p := ⟨g9, 4, none⟩) hgN (.int .i64 nn))
                  replace HK := hide (HK0.out.below HB.out)
                  clear e1 e2 e3 c4 y4
                  generalize w12.setCell ⟨g9, 4, none⟩ (.int .i64 nn) = w13 at *
                  have c0 := HX9.out.cell 0 _ rfl
                  have c1 := HX9.out.cell 1 _ rfl
                  have c2 := HX9.out.cell 2 _ rfl
                  have c3 := HX9.out.cell 3 _ rfl
                  have c4 := HX9.out.cell 4 _ rfl
                  have c5 := HX9.out.cell 5 _ rfl
                  have c6 := HX9.out.cell 6 _ rfl
                  have z0 := HX2.out.cell 0 _ rfl
                  have y0 := HX2.out.free 0
                  have z1 := HX2.out.cell 1 _ rfl
                  have y1 := HX2.out.free 1
                  have z2 := HX2.out.cell 2 _ rfl
                  have y2 := HX2.out.free 2
                  have z3 := HX2.out.cell 3 _ rfl
                  have y3 := HX2.out.free 3
                  have z4 := HX2.out.cell 4 _ rfl
                  have y4 := HX2.out.free 4
                  have z5 := HX2.out.cell 5 _ rfl
                  have y5 := HX2.out.free 5
                  have z6 := HX2.out.cell 6 _ rfl
                  have y6 := HX2.out.free 6
                  go_wp2
                  refine bodyPost_ret (results_ctt rfl _ _ _ _ _ _ _ _ _ rfl rfl rfl (HX2.out.put7 _ _ _ _ _ _ _).1 Tryd.underlying32 rfl Tryd.sizeDc) rfl ?_
                  exact ⟨(kd, true, x1, x2, nn, [], 0), none, 0, _, _, rfl, HRS.out, OwnR.nil _ _, bel_put7 HB.out (Nat.le_refl _) _ _ _ _ _ _ _⟩
        · rw [decide_eq_false hru] at qru
          have HR : Hid (dclU l = ((0, false, ⟨#[]⟩, ⟨#[]⟩, 0, [], 0), 0, false)) := dcl_no (by rw [HS.out]; exact HTN.out) (by rw [HS.out]; exact hop) (by rw [HS.out]; exact hru)
          have z0 := HX2.out.cell 0 _ rfl
          have y0 := HX2.out.free 0
          have z1 := HX2.out.cell 1 _ rfl
          have y1 := HX2.out.free 1
          have z2 := HX2.out.cell 2 _ rfl
          have y2 := HX2.out.free 2
          have z3 := HX2.out.cell 3 _ rfl
          have y3 := HX2.out.free 3
          have z4 := HX2.out.cell 4 _ rfl
          have y4 := HX2.out.free 4
          have z5 := HX2.out.cell 5 _ rfl
          have y5 := HX2.out.free 5
          have z6 := HX2.out.cell 6 _ rfl
          have y6 := HX2.out.free 6
          go_wp2
          refine bodyPost_ret (results_ctt rfl _ _ _ _ _ _ _ _ _ rfl rfl rfl (HX2.out.put7 _ _ _ _ _ _ _).1 Tryd.underlying32 rfl Tryd.sizeDc) rfl ?_
          exact ⟨(0, false, ⟨#[]⟩, ⟨#[]⟩, 0, [], 0), none, 0, _, _, rfl, HR.out, OwnR.nil _ _, bel_put7 HB.out (Nat.le_refl _) _ _ _ _ _ _ _⟩
end Go.Proofs.YtadmibfnjhockaaDoor
