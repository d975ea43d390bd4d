/- JournalReads is true for any bytes of two slots: the journal has what the document reads in them, it is renewed if something stands behind, and opened again it has the same. No condition. -/
import Derived.Test.YtofalfaiamaapaaRows
import Derived.WalkKit
import Derived.ProofKit
import Derived.OpenShut
import Derived.ShutString
import Derived.ChangeOld
import Derived.Below
import Derived.SizedLaws
import Derived.Test.YtofalfaiamaapaaQ13
namespace Go.Proofs.Ytofalfaiamaapaa.journalReads
open Go.ChangeShapes Go.WideShapes Go.ChangeAt Go.RowKit
set_option linter.unusedVariables false

theorem own : ownKnob Try.prog.godebug = none := by kernel_rfl
theorem laidOut : laidOutB Try.prog = true := by kernel_rfl

set_option maxHeartbeats 16000000 in
set_option maxRecDepth 20000 in
theorem walk (v0 : Value) (v1 : Value) (w : World) (w0 : InB w v0) (w1 : InB w v1) :
    Calls Try.prog 3 #[v0, v1] w fun e w' => e = .returned (.bool true) ∧ Below w.heap.size w w' := by
  obtain ⟨a, na, ca, la, rfl, hla, hca, _⟩ := w0
  obtain ⟨b, nb, cb, lb, rfl, hlb, hcb, _⟩ := w1
  have hma : la.length = na := hla.1
  have hmb : lb.length = nb := hlb.1
  have Hla := hide hla
  have Hlb := hide hlb
  have HCA := hide hca
  have HCB := hide hcb
  have hxa := hla.2.1
  have hxb := hlb.2.1
  unfold maxLen at hxa hxb
  have HMA := hide hma
  have HMB := hide hmb
  clear hla hlb hca hcb hma hmb
  by_cases hbig : na > 3000 ∨ nb > 3000
  · by_cases h1 : na > 3000
    · have h1' : (na : Int) > 3000 := by omega
      clear hbig
      go_enter Try.func3, Try.ntmps3
      go_wp2_with fail
      refine (awake7 w).mono ?_
      rintro e w1 ⟨rfl, hb⟩
      have HB := hide hb
      go_wp2
      go_ret
      exact ⟨rfl, HB.out⟩
    · have h1' : ¬ (na : Int) > 3000 := by omega
      have h2' : (nb : Int) > 3000 := by omega
      clear hbig
      go_enter Try.func3, Try.ntmps3
      go_wp2_with fail
      refine (awake7 w).mono ?_
      rintro e w1 ⟨rfl, hb⟩
      have HB := hide hb
      go_wp2
      go_ret
      exact ⟨rfl, HB.out⟩
  have h1' : ¬ (na : Int) > 3000 := by omega
  have h2' : ¬ (nb : Int) > 3000 := by omega
  have PA := hide (dR_a la (by have := HMA.out; omega))
  have PBB := hide (dR_b la lb (by have := HMA.out; omega) (by have := HMB.out; omega))
  obtain ⟨tA, rA, eA, HSA⟩ : ∃ t r e, Hid (scanRs la = (t, r, e)) := ⟨_, _, _, rfl⟩
  obtain ⟨tB, rB, eB, HSB⟩ : ∃ t r e, Hid (scanRs lb = (t, r, e)) := ⟨_, _, _, rfl⟩
  have HLA3 : Hid (la.length ≤ 3000) := by have := HMA.out; unfold Hid; omega
  have HLB3 : Hid (lb.length ≤ 3000) := by have := HMB.out; unfold Hid; omega
  have HLA : Hid ((dR la lb).a.l.length ≤ 400000) := by have := HLA3.out; show la.length ≤ 400000; omega
  have HLB : Hid ((dR la lb).b.l.length ≤ 400000) := by have := HLB3.out; show lb.length ≤ 400000; omega
  have ya := Hla.out.2.2.1
  have yb := Hlb.out.2.2.1
  have ma := scan_may la ya
  have mb := scan_may lb yb
  have ba := scan_by la ya
  have bb := scan_by lb yb
  have ob := fun h => opn_b (d := dR la lb) ya h
  have oa := fun h h0 => opn_a (d := dR la lb) h h0
  have o0 := fun h h0 => opn_0 (d := dR la lb) ya h h0
  have z0 := fun h => scan_zero ya h
  have ea : (dR la lb).a.l = la := rfl
  have eb : (dR la lb).b.l = lb := rfl
  rw [ea, eb] at ob oa o0
  have HSCA1 : Hid ((scanRs ((dR la lb).get 0).l).1 = tA) := by
    have : ((dR la lb).get 0).l = la := rfl
    unfold Hid
    rw [this, HSA.out]
  have HSCB1 : Hid ((scanRs ((dR la lb).get 1).l).1 = tB) := by
    have : ((dR la lb).get 1).l = lb := rfl
    unfold Hid
    rw [this, HSB.out]
  rw [HSA.out] at ma ba ob oa o0 z0
  rw [HSB.out] at mb bb ob oa o0
  simp only [] at ma mb ba bb ob oa o0 z0
  obtain ⟨_, ma2, ma3, ma4, _⟩ := ma
  obtain ⟨_, mb2, mb3, mb4, _⟩ := mb
  have HRBA := hide ba
  have HRBB := hide bb
  have HRLA : Hid ((bytesRs rA).length ≤ 3000) := by have := HLA3.out; unfold Hid; omega
  have HRLB : Hid ((bytesRs rB).length ≤ 3000) := by have := HLB3.out; unfold Hid; omega
  have HFTA := hide (dR_fit la lb HLA3.out HLB3.out 0 tA (bytesRs rA) HRLA.out)
  have HFTB := hide (dR_fit la lb HLA3.out HLB3.out 1 tB (bytesRs rB) HRLB.out)
  have HOPTB : Hid (tB > tA → eB < nb → opn (dR la lb) = (1, tB, rB, true)) := fun h1 h2 => by rw [ob h1, HMB.out]; simp [h2]
  have HOPSB : Hid (tB > tA → ¬ eB < nb → opn (dR la lb) = (1, tB, rB, false)) := fun h1 h2 => by rw [ob h1, HMB.out]; simp [h2]
  have HOPTA : Hid (¬ tB > tA → tA > 0 → eA < na → opn (dR la lb) = (0, tA, rA, true)) := fun h1 h0 h2 => by rw [oa h1 h0, HMA.out]; simp [h2]
  have HOPSA : Hid (¬ tB > tA → tA > 0 → ¬ eA < na → opn (dR la lb) = (0, tA, rA, false)) := fun h1 h0 h2 => by rw [oa h1 h0, HMA.out]; simp [h2]
  have HOP0A : Hid (¬ tB > tA → ¬ tA > 0 → opn (dR la lb) = (1, 0, [], false)) := fun h1 h0 => o0 h1 h0
  have HR0A : Hid (tA = 0 → rA = []) := fun h => by have q := z0 h; simp at q; exact q.2.1
  clear ma2 mb2 ya yb ba bb ob oa o0 z0 ea eb
  go_enter Try.func3, Try.ntmps3
  go_wp2_with fail
  refine (New_any 1048576 w (by decide) (by decide)).mono ?_
  rintro e w1 ⟨rfl, hp, hb⟩
  have P1 := hide hp
  have BL := hide hb
  clear hp hb
  go_wp2_with (at_builtin; refine Stop.at ?_)
  unfold Stop
  have O0 := Own.made w1 w1.heap.size _ rfl (Nat.le_refl _)
  have BB0 := hide (bel1 w1 (.cells #[] 5))
  refine append_bytes rfl _ _ rfl w1.heap.size _ [] la rfl O0 a na ca rfl HCA.out.2.2 ((Hla.out.below BL.out).below BB0.out) (by have := Hla.out.1; simp; omega) BB0.out.size ?_
  intro v0 w2 ho hgr hbel
  rw [List.nil_append] at ho
  have hq := hbel _ BB0.out
  obtain ⟨p0, c0, rfl, hb0, hc0⟩ := ho.open Hla.out.2.2.1
  have PB := hide (P1.out.below hq)
  have BS0 := hide hb0
  have CP0 := hide hc0
  replace BL := hide (bel_next BL.out hq)
  have hl0 : la.length = na := Hla.out.1
  rw [hl0] at BS0 CP0
  rw [hl0]
  clear ho hgr hbel hq hb0 hc0 O0 BB0 hl0
  go_wp2_with fail
  refine (Append_any 0 p0 na c0 la _ PB.out BS0.out CP0.out).mono ?_
  rw [PA.out]
  rintro e w3 ⟨P3a, P3b, rfl, hp, hst, hbl⟩
  have P3 := hide hp
  replace BL := hide (BL.out.trans hbl)
  clear hp hst hbl PB BS0 CP0
  go_wp2_with (at_builtin; refine Stop.at ?_)
  unfold Stop
  have O1 := Own.made w3 w3.heap.size _ rfl (Nat.le_refl _)
  have BB1 := hide (bel1 w3 (.cells #[] 5))
  refine append_bytes rfl _ _ rfl w3.heap.size _ [] lb rfl O1 b nb cb rfl HCB.out.2.2 ((Hlb.out.below BL.out).below BB1.out) (by have := Hlb.out.1; simp; omega) BB1.out.size ?_
  intro v1 w4 ho hgr hbel
  rw [List.nil_append] at ho
  have hq := hbel _ BB1.out
  obtain ⟨p1, c1, rfl, hb1, hc1⟩ := ho.open Hlb.out.2.2.1
  have PB := hide (P3.out.below hq)
  have BS1 := hide hb1
  have CP1 := hide hc1
  replace BL := hide (bel_next BL.out hq)
  have hl1 : lb.length = nb := Hlb.out.1
  rw [hl1] at BS1 CP1
  rw [hl1]
  clear ho hgr hbel hq hb1 hc1 O1 BB1 hl1
  go_wp2_with fail
  refine (Append_any 1 p1 nb c1 lb _ PB.out BS1.out CP1.out).mono ?_
  rw [PBB.out]
  rintro e w5 ⟨P5a, P5b, rfl, hp, hst, hbl⟩
  have P5 := hide hp
  replace BL := hide (BL.out.trans hbl)
  clear hp hst hbl PB BS1 CP1
  clear P1 P3 PA PBB
  have PD5 := P5
  have HXM := hide P5.out.xs
  clear P5
  have HSCA := hide (scanR_any a na ca la w5 (Hla.out.below BL.out) HCA.out (by omega))
  go_wp2_with fail
  refine HSCA.out.mono ?_
  unfold SCO
  rw [HSA.out]
  rintro e w6 ⟨vA, xA, rfl, hr, hx, hb⟩
  simp only [] at hx ⊢
  obtain ⟨pA, cA, rfl, _, _⟩ := hr.rc
  generalize hnA : xA.length = nA at *
  have RA := hide hr
  have XA := hide hx
  have ZA := hide (BL.out.size)
  replace BL := hide (bel_next BL.out hb)
  replace PD5 := hide (PD5.out.below hb)
  have S5 := hide hb.size
  clear hr hx hb HSCA hnA
  have FA := hide (BX.new w6 w6.heap.size rfl #[.int .u64 tA, .slice pA nA cA, .int .i64 (eA : Int)] 32)
  have hq := bel1 w6 (.cells #[.int .u64 tA, .slice pA nA cA, .int .i64 (eA : Int)] 32)
  replace RA := hide (RA.out.below hq)
  replace PD5 := hide (PD5.out.below hq)
  have HNC : Hid (w.heap.size ≤ w6.heap.size) := BL.out.size
  replace BL := hide (bel_next BL.out hq)
  have S57 := hide (Nat.le_trans S5.out hq.size)
  clear hq S5
  go_upto_region 9 with fail
  generalize w6.alloc (.cells #[.int .u64 tA, .slice pA nA cA, .int .i64 (eA : Int)] 32) = w7 at *
  generalize w6.heap.size = c7 at *
  have HSCB := hide (scanR_any b nb cb lb w7 (Hlb.out.below BL.out) HCB.out (by omega))
  go_wp2_with fail
  refine HSCB.out.mono ?_
  unfold SCO
  rw [HSB.out]
  rintro e w8 ⟨vB, xB, rfl, hr, hx, hb⟩
  simp only [] at hx ⊢
  obtain ⟨pB, cB, rfl, _, _⟩ := hr.rc
  generalize hnB : xB.length = nB at *
  have RB := hide hr
  have XB := hide hx
  have ZB := hide (BL.out.size)
  replace BL := hide (bel_next BL.out hb)
  replace PD5 := hide (PD5.out.below hb)
  replace FA := hide (FA.out.below hb)
  replace RA := hide (RA.out.below hb)
  clear hr hx hb HSCB hnB
  replace RB := hide (RB.out.mono S57.out)
  have FBB := hide (BX.new w8 w8.heap.size rfl #[.int .u64 tB, .slice pB nB cB, .int .i64 (eB : Int)] 32)
  have hq := bel1 w8 (.cells #[.int .u64 tB, .slice pB nB cB, .int .i64 (eB : Int)] 32)
  replace RA := hide (RA.out.below hq)
  replace RB := hide (RB.out.below hq)
  replace FA := hide (FA.out.below hq)
  replace PD5 := hide (PD5.out.below hq)
  replace BL := hide (bel_next BL.out hq)
  clear hq
  go_upto_region 10 with fail
  generalize w8.alloc (.cells #[.int .u64 tB, .slice pB nB cB, .int .i64 (eB : Int)] 32) = w9 at *
  generalize w8.heap.size = c9 at *
  have f0 := FA.out.cell 0 _ rfl
  have g0 := FBB.out.cell 0 _ rfl
  by_cases hgt : tB > tA
  · have g1 := FBB.out.cell 1 _ rfl
    have g2 := FBB.out.cell 2 _ rfl
    have f1 := FA.out.cell 1 _ rfl
    have f2 := FA.out.cell 2 _ rfl
    have ff := fun j => FA.out.free j
    obtain ⟨r1, r2, r3, r4⟩ := FA.out.put3 (.int .u64 tB) (.slice pB nB cB) (.int .i64 (eB : Int))
    have FB := hide r1
    have n1 := PD5.out.notx FA.out (by decide) (by decide)
    have P10 := hide (((PD5.out.setc n1 0 (.int .u64 tB)).setc n1 1 (.slice pB nB cB)).setc n1 2 (.int .i64 (eB : Int)))
    have RF := hide (((RB.out.setc FA.out (by decide) (by decide) 0 (.int .u64 tB)).setc (FA.out.set 0 _) (by decide) (by decide) 1 (.slice pB nB cB)).setc ((FA.out.set 0 _).set 1 _) (by decide) (by decide) 2 (.int .i64 (eB : Int)))
    have L10 := hide (r3 _ _ BL.out HNC.out)
    go_upto_region 12 with fail
    generalize ((w9.setCell ⟨c7, 0, none⟩ (.int .u64 tB)).setCell ⟨c7, 1, none⟩ (.slice pB nB cB)).setCell ⟨c7, 2, none⟩ (.int .i64 (eB : Int)) = w10 at *
    clear f0 f1 f2 g0 g1 g2 ff r1 r2 r3 r4 n1 PD5 BL RB RA FA FBB
    have PD5 := P10
    have BL := L10
    clear P10 L10
    have MC1 := RF.out.rc2.1
    rw [XB.out] at MC1
    have MC := hide MC1
    clear MC1
    have ht0 : tB ≠ 0 := by omega
    by_cases hen : eB < nb
    · by_cases hmx : tB = 1099511627776
      · have g0 : tB > 0 := by omega
        have g1 : (eB : Int) < (nb : Int) := by omega
        have HO := hide (Open_max w10 PD5.out rfl HLA.out HLB.out (by rw [HOPTB.out hgt (by omega), hmx]))
        have HNX := hide (PD5.out.notx FB.out (by decide) (by decide))
        go_wp2_with fail
        refine HO.out.mono ?_
        rintro e w11 ⟨rfl, hb, X', hsp⟩
        replace BL := hide (BL.out.trans hb)
        replace FB := hide (FB.out.sp hsp HNX.out)
        clear hb hsp HO
        have f0 := FB.out.cell 0 _ rfl
        have f2 := FB.out.cell 2 _ rfl
        subst hmx
        go_wp2_with fail
        refine (awake7 w11).mono ?_
        rintro e w16 ⟨rfl, hb⟩
        replace BL := hide (bel_next BL.out hb)
        clear hb
        go_wp2
        go_ret
        exact ⟨rfl, BL.out⟩
      · have g0 : tB > 0 := by omega
        have g1 : (eB : Int) < (nb : Int) := by omega
        have g2 : (tB == 1099511627776) = false := by simpa using hmx
        have HO := hide (Open_turn w10 PD5.out rfl HLA.out HLB.out (HOPTB.out hgt (by omega)) (.inr rfl) g0 (by omega) HSCB1.out HRBB.out HFTB.out)
        have HNX := hide (PD5.out.notx FB.out (by decide) (by decide))
        have ht1 : tB + 1 ≤ 1099511627776 := by omega
        clear hmx hen
        go_wp2_with fail
        refine HO.out.mono ?_
        rintro e w11 ⟨p11, n11, c11, va', vb', d', rfl, hrc, hcp, hp, hs', hji, hj, hd', hsp, hb⟩
        have R11 := hide hrc
        have J11 := hide hj
        have P11 := hide hp
        have HLD : Hid (d'.a.l.length ≤ 400000 ∧ d'.b.l.length ≤ 400000) := by
          unfold Hid
          rw [hd']
          exact dR_len la lb HLA3.out HLB3.out _ _ _ (by have := frame7_len (tB + 1) (bytesRs rB); have := HRLB.out; omega)
        have HJI := hide hji
        have HS' := hide hs'
        replace FB := hide (FB.out.sp hsp HNX.out)
        replace RF := hide (RF.out.spx HXM.out hsp)
        replace BL := hide (BL.out.trans hb)
        have MC2 := RF.out.rc2.1
        rw [XB.out] at MC2
        replace MC := hide MC2
        clear hrc hcp hp hs' hji hj hd' hsp hb HO MC2
        have f0 := FB.out.cell 0 _ rfl
        have f1 := FB.out.cell 1 _ rfl
        have f2 := FB.out.cell 2 _ rfl
        go_wp2_with fail
        refine (sameRs_any p11 n11 c11 _ pB nB cB _ w11 R11.out MC.out true (by simp)).mono ?_
        rintro e w12 ⟨rfl, hb⟩
        replace J11 := hide (J11.out.below hb)
        replace P11 := hide (P11.out.below hb)
        replace FB := hide (FB.out.below hb)
        replace MC := hide (MC.out.bel hb)
        replace BL := hide (bel_next BL.out hb)
        clear hb f0 f1 f2 R11
        have f0 := FB.out.cell 0 _ rfl
        have f2 := FB.out.cell 2 _ rfl
        go_wp2_with fail
        refine (Turn_any _ _ _ _ _ w12 J11.out).mono ?_
        rintro e w13 ⟨rfl, hw⟩
        rw [hw]
        clear hw w13 f0 f2 J11
        have HO := hide (Open_JI w12 P11.out HS'.out HLD.out.1 HLD.out.2 HJI.out (by omega))
        go_wp2_with fail
        refine HO.out.mono ?_
        rintro e w14 ⟨p14, n14, c14, rfl, hrc, hcp, hp, hj, hb⟩
        have R14 := hide hrc
        replace FB := hide (FB.out.below hb)
        replace MC := hide (MC.out.bel hb)
        replace BL := hide (bel_next BL.out hb)
        clear hrc hcp hp hj hb HO
        have f1 := FB.out.cell 1 _ rfl
        go_wp2_with fail
        refine (sameRs_any p14 n14 c14 _ pB nB cB _ w14 R14.out MC.out true (by simp)).mono ?_
        rintro e w15 ⟨rfl, hb⟩
        replace BL := hide (bel_next BL.out hb)
        clear hb f1
        go_wp2_with fail
        refine (awake7 w15).mono ?_
        rintro e w16 ⟨rfl, hb⟩
        replace BL := hide (bel_next BL.out hb)
        clear hb
        go_wp2
        go_ret
        exact ⟨rfl, BL.out⟩
    · have g0 : tB > 0 := by omega
      have g1 : ¬ (eB : Int) < (nb : Int) := by omega
      have HO := hide (Open_still w10 PD5.out rfl HLA.out HLB.out (HOPSB.out hgt (by omega)))
      go_wp2_with fail
      refine HO.out.mono ?_
      rintro e w11 ⟨p11, n11, c11, rfl, hrc, hcp, hp, hj, hb⟩
      have R11 := hide hrc
      have J11 := hide hj
      replace PD5 := hide (PD5.out.below hb)
      replace FB := hide (FB.out.below hb)
      replace MC := hide (MC.out.bel hb)
      replace BL := hide (bel_next BL.out hb)
      clear hrc hcp hp hj hb
      have f0 := FB.out.cell 0 _ rfl
      have f1 := FB.out.cell 1 _ rfl
      have f2 := FB.out.cell 2 _ rfl
      go_wp2_with fail
      refine (sameRs_any p11 n11 c11 _ pB nB cB _ w11 R11.out MC.out true (by simp)).mono ?_
      rintro e w12 ⟨rfl, hb⟩
      replace J11 := hide (J11.out.below hb)
      replace PD5 := hide (PD5.out.below hb)
      replace FB := hide (FB.out.below hb)
      replace MC := hide (MC.out.bel hb)
      replace BL := hide (bel_next BL.out hb)
      clear hb f0 f1 f2 R11
      have f0 := FB.out.cell 0 _ rfl
      have f2 := FB.out.cell 2 _ rfl
      go_wp2_with fail
      refine (Turn_any _ _ _ _ _ w12 J11.out).mono ?_
      rintro e w13 ⟨rfl, hw⟩
      rw [hw]
      clear hw w13 f0 f2 J11 HO
      have HO := hide (Open_still w12 PD5.out rfl HLA.out HLB.out (HOPSB.out hgt (by omega)))
      go_wp2_with fail
      refine HO.out.mono ?_
      rintro e w14 ⟨p14, n14, c14, rfl, hrc, hcp, hp, hj, hb⟩
      have R14 := hide hrc
      replace FB := hide (FB.out.below hb)
      replace MC := hide (MC.out.bel hb)
      replace BL := hide (bel_next BL.out hb)
      clear hrc hcp hp hj hb HO
      have f1 := FB.out.cell 1 _ rfl
      go_wp2_with fail
      refine (sameRs_any p14 n14 c14 _ pB nB cB _ w14 R14.out MC.out true (by simp)).mono ?_
      rintro e w15 ⟨rfl, hb⟩
      replace BL := hide (bel_next BL.out hb)
      clear hb f1
      go_wp2_with fail
      refine (awake7 w15).mono ?_
      rintro e w16 ⟨rfl, hb⟩
      replace BL := hide (bel_next BL.out hb)
      clear hb
      go_wp2
      go_ret
      exact ⟨rfl, BL.out⟩
  · go_upto_region 12 with fail
    clear RB FBB g0 f0
    have RF := RA
    have FB := FA
    clear RA FA
    generalize w9 = w10 at *
    have MC1 := RF.out.rc2.1
    rw [XA.out] at MC1
    have MC := hide MC1
    clear MC1
    by_cases ht0 : tA = 0
    · rw [HR0A.out ht0] at MC
      have g0 : ¬ tA > 0 := by omega
      have HO := hide (Open_still w10 PD5.out rfl HLA.out HLB.out (HOP0A.out (by omega) (by omega)))
      go_wp2_with fail
      refine HO.out.mono ?_
      rintro e w11 ⟨p11, n11, c11, rfl, hrc, hcp, hp, hj, hb⟩
      have R11 := hide hrc
      have J11 := hide hj
      replace PD5 := hide (PD5.out.below hb)
      replace FB := hide (FB.out.below hb)
      replace MC := hide (MC.out.bel hb)
      replace BL := hide (bel_next BL.out hb)
      clear hrc hcp hp hj hb
      have f0 := FB.out.cell 0 _ rfl
      have f1 := FB.out.cell 1 _ rfl
      have f2 := FB.out.cell 2 _ rfl
      go_wp2_with fail
      refine (sameRs_any p11 n11 c11 _ pA nA cA _ w11 R11.out MC.out true (by simp)).mono ?_
      rintro e w12 ⟨rfl, hb⟩
      replace J11 := hide (J11.out.below hb)
      replace PD5 := hide (PD5.out.below hb)
      replace FB := hide (FB.out.below hb)
      replace MC := hide (MC.out.bel hb)
      replace BL := hide (bel_next BL.out hb)
      clear hb f0 f1 f2 R11
      have f0 := FB.out.cell 0 _ rfl
      have f2 := FB.out.cell 2 _ rfl
      go_wp2_with fail
      refine (Turn_any _ _ _ _ _ w12 J11.out).mono ?_
      rintro e w13 ⟨rfl, hw⟩
      rw [hw]
      clear hw w13 f0 f2 J11 HO
      have HO := hide (Open_still w12 PD5.out rfl HLA.out HLB.out (HOP0A.out (by omega) (by omega)))
      go_wp2_with fail
      refine HO.out.mono ?_
      rintro e w14 ⟨p14, n14, c14, rfl, hrc, hcp, hp, hj, hb⟩
      have R14 := hide hrc
      replace FB := hide (FB.out.below hb)
      replace MC := hide (MC.out.bel hb)
      replace BL := hide (bel_next BL.out hb)
      clear hrc hcp hp hj hb HO
      have f1 := FB.out.cell 1 _ rfl
      go_wp2_with fail
      refine (sameRs_any p14 n14 c14 _ pA nA cA _ w14 R14.out MC.out true (by simp)).mono ?_
      rintro e w15 ⟨rfl, hb⟩
      replace BL := hide (bel_next BL.out hb)
      clear hb f1
      go_wp2_with fail
      refine (awake7 w15).mono ?_
      rintro e w16 ⟨rfl, hb⟩
      replace BL := hide (bel_next BL.out hb)
      clear hb
      go_wp2
      go_ret
      exact ⟨rfl, BL.out⟩
    by_cases hen : eA < na
    · by_cases hmx : tA = 1099511627776
      · have g0 : tA > 0 := by omega
        have g1 : (eA : Int) < (na : Int) := by omega
        have HO := hide (Open_max w10 PD5.out rfl HLA.out HLB.out (by rw [HOPTA.out (by omega) (by omega) (by omega), hmx]))
        have HNX := hide (PD5.out.notx FB.out (by decide) (by decide))
        go_wp2_with fail
        refine HO.out.mono ?_
        rintro e w11 ⟨rfl, hb, X', hsp⟩
        replace BL := hide (BL.out.trans hb)
        replace FB := hide (FB.out.sp hsp HNX.out)
        clear hb hsp HO
        have f0 := FB.out.cell 0 _ rfl
        have f2 := FB.out.cell 2 _ rfl
        subst hmx
        go_wp2_with fail
        refine (awake7 w11).mono ?_
        rintro e w16 ⟨rfl, hb⟩
        replace BL := hide (bel_next BL.out hb)
        clear hb
        go_wp2
        go_ret
        exact ⟨rfl, BL.out⟩
      · have g0 : tA > 0 := by omega
        have g1 : (eA : Int) < (na : Int) := by omega
        have g2 : (tA == 1099511627776) = false := by simpa using hmx
        have HO := hide (Open_turn w10 PD5.out rfl HLA.out HLB.out (HOPTA.out (by omega) (by omega) (by omega)) (.inl rfl) g0 (by omega) HSCA1.out HRBA.out HFTA.out)
        have HNX := hide (PD5.out.notx FB.out (by decide) (by decide))
        have ht1 : tA + 1 ≤ 1099511627776 := by omega
        clear hmx hen
        go_wp2_with fail
        refine HO.out.mono ?_
        rintro e w11 ⟨p11, n11, c11, va', vb', d', rfl, hrc, hcp, hp, hs', hji, hj, hd', hsp, hb⟩
        have R11 := hide hrc
        have J11 := hide hj
        have P11 := hide hp
        have HLD : Hid (d'.a.l.length ≤ 400000 ∧ d'.b.l.length ≤ 400000) := by
          unfold Hid
          rw [hd']
          exact dR_len la lb HLA3.out HLB3.out _ _ _ (by have := frame7_len (tA + 1) (bytesRs rA); have := HRLA.out; omega)
        have HJI := hide hji
        have HS' := hide hs'
        replace FB := hide (FB.out.sp hsp HNX.out)
        replace RF := hide (RF.out.spx HXM.out hsp)
        replace BL := hide (BL.out.trans hb)
        have MC2 := RF.out.rc2.1
        rw [XA.out] at MC2
        replace MC := hide MC2
        clear hrc hcp hp hs' hji hj hd' hsp hb HO MC2
        have f0 := FB.out.cell 0 _ rfl
        have f1 := FB.out.cell 1 _ rfl
        have f2 := FB.out.cell 2 _ rfl
        go_wp2_with fail
        refine (sameRs_any p11 n11 c11 _ pA nA cA _ w11 R11.out MC.out true (by simp)).mono ?_
        rintro e w12 ⟨rfl, hb⟩
        replace J11 := hide (J11.out.below hb)
        replace P11 := hide (P11.out.below hb)
        replace FB := hide (FB.out.below hb)
        replace MC := hide (MC.out.bel hb)
        replace BL := hide (bel_next BL.out hb)
        clear hb f0 f1 f2 R11
        have f0 := FB.out.cell 0 _ rfl
        have f2 := FB.out.cell 2 _ rfl
        go_wp2_with fail
        refine (Turn_any _ _ _ _ _ w12 J11.out).mono ?_
        rintro e w13 ⟨rfl, hw⟩
        rw [hw]
        clear hw w13 f0 f2 J11
        have HO := hide (Open_JI w12 P11.out HS'.out HLD.out.1 HLD.out.2 HJI.out (by omega))
        go_wp2_with fail
        refine HO.out.mono ?_
        rintro e w14 ⟨p14, n14, c14, rfl, hrc, hcp, hp, hj, hb⟩
        have R14 := hide hrc
        replace FB := hide (FB.out.below hb)
        replace MC := hide (MC.out.bel hb)
        replace BL := hide (bel_next BL.out hb)
        clear hrc hcp hp hj hb HO
        have f1 := FB.out.cell 1 _ rfl
        go_wp2_with fail
        refine (sameRs_any p14 n14 c14 _ pA nA cA _ w14 R14.out MC.out true (by simp)).mono ?_
        rintro e w15 ⟨rfl, hb⟩
        replace BL := hide (bel_next BL.out hb)
        clear hb f1
        go_wp2_with fail
        refine (awake7 w15).mono ?_
        rintro e w16 ⟨rfl, hb⟩
        replace BL := hide (bel_next BL.out hb)
        clear hb
        go_wp2
        go_ret
        exact ⟨rfl, BL.out⟩
    · have g0 : tA > 0 := by omega
      have g1 : ¬ (eA : Int) < (na : Int) := by omega
      have HO := hide (Open_still w10 PD5.out rfl HLA.out HLB.out (HOPSA.out (by omega) (by omega) (by omega)))
      go_wp2_with fail
      refine HO.out.mono ?_
      rintro e w11 ⟨p11, n11, c11, rfl, hrc, hcp, hp, hj, hb⟩
      have R11 := hide hrc
      have J11 := hide hj
      replace PD5 := hide (PD5.out.below hb)
      replace FB := hide (FB.out.below hb)
      replace MC := hide (MC.out.bel hb)
      replace BL := hide (bel_next BL.out hb)
      clear hrc hcp hp hj hb
      have f0 := FB.out.cell 0 _ rfl
      have f1 := FB.out.cell 1 _ rfl
      have f2 := FB.out.cell 2 _ rfl
      go_wp2_with fail
      refine (sameRs_any p11 n11 c11 _ pA nA cA _ w11 R11.out MC.out true (by simp)).mono ?_
      rintro e w12 ⟨rfl, hb⟩
      replace J11 := hide (J11.out.below hb)
      replace PD5 := hide (PD5.out.below hb)
      replace FB := hide (FB.out.below hb)
      replace MC := hide (MC.out.bel hb)
      replace BL := hide (bel_next BL.out hb)
      clear hb f0 f1 f2 R11
      have f0 := FB.out.cell 0 _ rfl
      have f2 := FB.out.cell 2 _ rfl
      go_wp2_with fail
      refine (Turn_any _ _ _ _ _ w12 J11.out).mono ?_
      rintro e w13 ⟨rfl, hw⟩
      rw [hw]
      clear hw w13 f0 f2 J11 HO
      have HO := hide (Open_still w12 PD5.out rfl HLA.out HLB.out (HOPSA.out (by omega) (by omega) (by omega)))
      go_wp2_with fail
      refine HO.out.mono ?_
      rintro e w14 ⟨p14, n14, c14, rfl, hrc, hcp, hp, hj, hb⟩
      have R14 := hide hrc
      replace FB := hide (FB.out.below hb)
      replace MC := hide (MC.out.bel hb)
      replace BL := hide (bel_next BL.out hb)
      clear hrc hcp hp hj hb HO
      have f1 := FB.out.cell 1 _ rfl
      go_wp2_with fail
      refine (sameRs_any p14 n14 c14 _ pA nA cA _ w14 R14.out MC.out true (by simp)).mono ?_
      rintro e w15 ⟨rfl, hb⟩
      replace BL := hide (bel_next BL.out hb)
      clear hb f1
      go_wp2_with fail
      refine (awake7 w15).mono ?_
      rintro e w16 ⟨rfl, hb⟩
      replace BL := hide (bel_next BL.out hb)
      clear hb
      go_wp2
      go_ret
      exact ⟨rfl, BL.out⟩

/-! ### The row's step -/
set_option maxRecDepth 100000 in
theorem lifted (os : Os) (started : os.Started) (H : Type) (enc : TypeId × Value → H) :
    ReturnsInHanded {} Try.checked os 3 .any (Rows.journalReadsSpec.pre6 enc Try.prog Try.f3 Rows.journalReadsRow.domain false) (Rows.journalReadsSpec.post enc Try.prog Try.f3 false true false false) := by
  refine returnsInHanded_of_change_sized (C := Try.checked) own started (by kernel_rfl) Try.func3
    (ChangeSpec.witness6 (enc := enc) (C := Try.checked) false ⟨#[], #[.slice none 0 0, .slice none 0 0], []⟩ 8 (by kernel_rfl) (by kernel_rfl) (by kernel_rfl) (by kernel_rfl)) ?_
  intro W base args ds gs before hval0 hW hcnd hz0 _
  have hval : ∀ (j : Nat) t v, Try.f3.params[j]? = some t → args[j]? = some v → Value.okWide Try.prog W .any base t v := hval0
  have hz : (DataW.weightsEach Try.prog (Try.f3.params.toList ++ Rows.journalReadsSpec.plain.varTypes Try.prog) (ds ++ gs)).all (· ≤ reachBytes) = true := hz0
  have hW' := hW
  obtain ⟨p, q, hA0, hV, rfl, hfz, hnd⟩ := hW
  have hA : DataW.TrodAll enc Try.prog W 0 (fun _ => true) true Try.f3.params.toList args.toList ds p := hA0
  rw [Try.params3] at hA hval hz
  obtain ⟨v0, vs0, d0, ds0, p0, q0, hargs, rfl, rfl, h0, r0⟩ := trodAll_cons hA
  obtain ⟨v1, vs1, d1, ds1, p1, q1, rfl, rfl, rfl, h1, r1⟩ := trodAll_cons r0
  obtain ⟨rfl, rfl, rfl⟩ := trodAll_nil r1
  obtain rfl : args = #[v0, v1] := by cases args; simp_all
  obtain ⟨rfl, rfl⟩ := trodVars_none hV
  have k0 := h0
  have lt0 : ∀ x ∈ p0, x.block < W.heap.size := by obtain ⟨m, hm⟩ := k0; exact DataW.trod_lt m _ _ _ hm
  have w0 : InB W v0 := in_bytes (hval 0 22 v0 rfl rfl) h0 (fun n hn => by have := List.all_eq_true.1 hz n (DataW.weights_mem_each (j := 0) (t := 22) rfl rfl n hn); simpa using this)
  have k1 := h1
  have lt1 : ∀ x ∈ p1, x.block < W.heap.size := by obtain ⟨m, hm⟩ := k1; exact DataW.trod_lt m _ _ _ hm
  have w1 : InB W v1 := in_bytes (hval 1 22 v1 rfl rfl) h1 (fun n hn => by have := List.all_eq_true.1 hz n (DataW.weights_mem_each (j := 1) (t := 22) rfl rfl n hn); simpa using this)
  clear hA0 hval0 hz0
  refine (walk v0 v1 W w0 w1).mono fun e W' ⟨he, bel⟩ => ?_
  subst he
  exact ⟨_, rfl, _, _, _, [], _, [], hW', trodAll_mk1 (shut_bool Try.underlying4 _), (trodAll_cons_mk (Below.trod laidOut (by kernel_rfl) (of_decide_eq_true (by kernel_rfl)) k0 bel lt0) (trodAll_cons_mk (Below.trod laidOut (by kernel_rfl) (of_decide_eq_true (by kernel_rfl)) k1 bel lt1) trodAll_mk0)), rfl, bel.frame _, fun h => by cases h⟩

theorem over : Rows.journalReadsRow.holds Try.pinned (OpenSpec.ofChange Rows.journalReadsSpec) :=
  OpenClaim.holds_of_wide 3 Try.f3 rfl rfl rfl rfl rfl rfl rfl ⟨rfl, rfl, rfl, rfl, rfl⟩ rfl rfl rfl rfl rfl (by kernel_rfl) Try.func3 (by kernel_rfl)
    (of_decide_eq_true (by kernel_rfl)) (by unfold Func.isWrapper; first | (rw [if_pos (by decide +kernel)]; kernel_rfl) | (rw [if_neg (by decide +kernel)]; exact ⟨rfl, rfl⟩))
    (fun os started H enc _ => lifted os started H enc)
end Go.Proofs.Ytofalfaiamaapaa.journalReads
namespace Go.Proofs.Ytofalfaiamaapaa
theorem journalReads_holds : Rows.JournalReadsSaid := journalReads.over
end Go.Proofs.Ytofalfaiamaapaa
